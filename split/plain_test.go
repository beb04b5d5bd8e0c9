package split

import (
	"tollhouse/amount"
	"tollhouse/api"
	"tollhouse/graph"
	"tollhouse/invoice"
	"tollhouse/mac"
	"tollhouse/policy"
	"tollhouse/share"
)

// plainPayment is a payment, and all that ever was of it.
type plainPayment struct {
	api.Invoice
	most  int
	began bool
	given int // parts
	tries []api.Try
}

// plain is the document's words: payments in their order, and no more than their tries; all else is counted anew.
type plain struct {
	node     int
	payments []*plainPayment
}

func (p *plain) find(id [32]byte) *plainPayment {
	for _, x := range p.payments {
		if x.Secret == id {
			return x
		}
	}
	return nil
}

// lay lays parts of these amounts over g, which it changes.
func (p *plain) lay(g *graph.Graph, to int, amounts []int, height, tick, fees int) []api.Way {
	var ways []api.Way
	for _, sum := range amounts {
		last := height + 12
		if last > 2147483647 {
			last = 2147483647
		}
		w, e := g.Find(api.Want{From: p.node, To: to, Amount: sum, Last: last, Tick: tick, Most: fees})
		if e != api.OK {
			return nil
		}
		fees -= w.Fee
		for k, e := range w.Edges {
			e.Capacity -= w.Amounts[k]
			g.Set(e)
		}
		ways = append(ways, w)
	}
	return ways
}

func (p *plain) start(g *graph.Graph, i api.Invoice, most int, seed [32]byte, height, tick int) ([]api.Try, api.Errno) {
	inTime := height >= 0 && height <= 2147483647 && tick >= 0 && tick <= 2147483647
	if g == nil || !invoice.May(i) || i.Amount > 281474976710656 || i.Node == p.node || most < 0 || !inTime {
		return nil, api.ErrArg
	}
	if p.find(i.Secret) != nil {
		return nil, api.ErrTwice
	}
	if len(p.payments) == 32 {
		return nil, api.ErrFull
	}
	if height > i.Expiry {
		return nil, api.ErrState
	}
	x := &plainPayment{Invoice: i, most: most}
	p.payments = append(p.payments, x)
	for _, n := range []int{1, 2, 4, 8, 16} {
		if n > i.Amount {
			break
		}
		var amounts []int
		for k := range n {
			amounts = append(amounts, amount.Share(i.Amount, n, k))
		}
		ways := p.lay(g.Fork(), i.Node, amounts, height, tick, most)
		if ways == nil {
			continue
		}
		x.began = true
		for k, w := range ways {
			t := api.Try{Payment: i.Secret, Part: k, Number: k, State: 1, Amount: amounts[k], Hash: i.Hash, Way: w}
			if i.Kind == api.InvoiceSet {
				root := mac.Derive(seed, "root", 0)
				t.Set = mac.Derive(seed, "set", 0)
				t.Hash = share.Hash(root, t.Set, k)
				shares, _ := share.Split(root, seed, n)
				t.Share = shares[k]
			}
			x.tries = append(x.tries, t)
		}
		return x.tries, api.OK
	}
	return nil, api.ErrNone
}

func (p *plain) try(id [32]byte, number int) (*plainPayment, api.Errno) {
	x := p.find(id)
	if x == nil || number < 0 || number >= len(x.tries) {
		return nil, api.ErrNone
	}
	if x.tries[number].State != 1 {
		return nil, api.ErrState
	}
	return x, api.OK
}

func (p *plain) failed(g *graph.Graph, id [32]byte, number, hop, reason, height, tick int) ([]api.Try, api.Errno) {
	x, e := p.try(id, number)
	if e != api.OK {
		return nil, e
	}
	t := x.tries[number]
	x.tries[number].State = 3
	if hop >= 0 && hop < len(t.Way.Edges) {
		for k := 0; k <= hop; k++ {
			g.Learn(t.Way.Edges[k].Channel, t.Way.Edges[k].From, t.Way.Amounts[k], tick, k < hop)
		}
	}
	left, paid := x.most, 0
	for _, o := range x.tries {
		if o.State == 1 {
			left -= o.Way.Fee
		}
		if o.State == 2 {
			paid++
		}
	}
	if policy.Retry(reason) && paid == 0 && x.given == 0 && len(x.tries) < 24 && height >= 0 && height <= 2147483647 && height <= x.Expiry {
		if ways := p.lay(g.Fork(), x.Node, []int{t.Amount}, height, tick, left); ways != nil {
			t.Way, t.Number = ways[0], len(x.tries)
			x.tries = append(x.tries, t)
			return []api.Try{t}, api.OK
		}
	}
	x.given++
	return nil, api.OK
}

func (p *plain) paid(g *graph.Graph, id [32]byte, number int, secret [32]byte, tick int) api.Errno {
	x, e := p.try(id, number)
	if e != api.OK {
		return e
	}
	t := &x.tries[number]
	if mac.Hash(secret) != t.Hash {
		return api.ErrSecret
	}
	t.State, t.Secret = 2, secret
	for k, e := range t.Way.Edges {
		g.Learn(e.Channel, e.From, t.Way.Amounts[k], tick, true)
	}
	return api.OK
}

// state is a payment's state, what was paid, the fees of that; and what is flying, with its fees.
func (x *plainPayment) state() (state, paid, fees, flying, flyingFees, count int) {
	for _, t := range x.tries {
		switch t.State {
		case 1:
			flying += t.Amount
			flyingFees += t.Way.Fee
			count++
		case 2:
			paid += t.Amount
			fees += t.Way.Fee
		}
	}
	state = 3
	if count > 0 {
		state = 1
	} else if paid > 0 {
		state = 2
	}
	return state, paid, fees, flying, flyingFees, count
}
