package node

import (
	"slices"

	"tollhouse/api"
	"tollhouse/chain"
	"tollhouse/deal"
	"tollhouse/resolver"
)

// firstHtlc is the place of the first HTLC among a commitment's outputs.
const firstHtlc = 2

// block takes a block's height, and transactions that are confirmed in it.
func (s *state) block(height int, txs []api.Tx) api.Errno {
	if height < s.height || height > api.MaxExpiry {
		return api.ErrArg
	}
	s.height = height
	for _, tx := range txs {
		s.confirmed(tx)
	}
	s.act(s.registry.Tick(s.height, s.tick))
	s.each(s.watch)
	return api.OK
}

// confirmed is what a transaction does to channels, also those of others: nothing goes over these any more.
func (s *state) confirmed(tx api.Tx) {
	for _, t := range s.config.Terms {
		if spends(tx, t.Fund) {
			s.graph.Remove(t.Channel, t.A)
			s.graph.Remove(t.Channel, t.B)
		}
	}
	s.each(func(l *link) {
		if !l.spent && spends(tx, l.terms.Fund) {
			s.spent(l, tx)
		}
		if l.spent {
			s.claimed(l, tx)
		}
	})
}

// spent is that tx spent the money of a channel. Those of the node's HTLCs failed that nobody will ever claim.
func (s *state) spent(l *link, tx api.Tx) {
	l.open, l.spent = false, true
	l.closed = resolver.Sort(l.Channel, tx, s.height)
	l.tx = chain.Id(tx)
	l.taken = make([]bool, len(tx.Outs))
	for _, out := range inOrder(s.offers) {
		if out.Channel != l.terms.Channel {
			continue
		}
		if place, ok := deal.Place(l.closed.View, s.config.Node, out.Id); !ok || !l.worth(place) {
			s.lost(out)
		}
	}
}

// claimed is what tx does to the outputs of the transaction that closed a channel.
func (s *state) claimed(l *link, tx api.Tx) {
	for _, in := range tx.Ins {
		place := in.Ref.Out
		if in.Ref.Tx != l.tx || !within(place, 0, len(l.taken)-1) {
			continue
		}
		l.taken[place] = true
		secret, shown := resolver.Shown(l.closed, place, tx)
		if shown {
			s.tell(secret)
		}
		if !within(place, firstHtlc, firstHtlc+len(l.closed.View.Htlcs)-1) {
			continue
		}
		h := l.closed.View.Htlcs[place-firstHtlc]
		if h.By != s.config.Node {
			continue
		}
		if out := (api.Hook{Channel: l.terms.Channel, Id: h.Id}); shown {
			s.paid(out, secret)
		} else {
			s.lost(out)
		}
	}
}

// watch gives the chain what is to be given to it for a channel.
func (s *state) watch(l *link) {
	if l.spent {
		txs := resolver.Claims(l.terms, s.config.Node, s.key, l.closed, s.height+1, l.taken, s.toldOf(l.closed.View))
		s.out.Txs = append(s.out.Txs, txs...)
		return
	}
	if !l.open || s.due(l) {
		s.shut(l)
	}
}

// due tells whether one of a channel's commitments says that it must be closed.
func (s *state) due(l *link) bool {
	_, own := l.Own()
	_, others := l.Others()
	_, pending, _ := l.Pending()
	return slices.ContainsFunc([]api.View{own, others, pending}, func(v api.View) bool {
		return resolver.Due(l.terms, s.config.Node, v, s.height, s.config.Margin, s.toldOf(v))
	})
}

// shut publishes a channel's commitment. It is open no more.
func (s *state) shut(l *link) {
	l.open = false
	if tx, e := l.Close(); e == api.OK {
		s.out.Txs = append(s.out.Txs, tx)
	}
}

// close closes the channel of this number.
func (s *state) close(number int) api.Errno {
	l := s.links[number]
	switch {
	case l == nil:
		return api.ErrNone
	case l.spent:
		return api.ErrTwice
	}
	s.shut(l)
	return api.OK
}

// toldOf is the secrets of a view's HTLCs that may be shown. Those of invoices that are not paid yet are not among them.
func (s *state) toldOf(v api.View) [][32]byte {
	var l [][32]byte
	for _, h := range v.Htlcs {
		if secret, ok := s.told[h.Hash]; ok {
			l = append(l, secret)
		}
	}
	return l
}

// spends tells whether tx spends an output.
func spends(tx api.Tx, r api.Ref) bool {
	return slices.ContainsFunc(tx.Ins, func(in api.In) bool { return in.Ref == r })
}
