package node

import (
	"tollhouse/amount"
	"tollhouse/api"
	"tollhouse/deal"
	"tollhouse/invoice"
	"tollhouse/mac"
	"tollhouse/onion"
	"tollhouse/split"
)

// nowhere is the hop of a failure of which no edge of the way is learnt: the node knows its own channels.
const nowhere = -1

// invoice makes an invoice, and tells its text.
func (s *state) invoice(in api.Input) api.Errno {
	i := api.Invoice{
		Node: s.config.Node,
		Kind: in.Number,
		// Not what pays it: who may pay it knows this one.
		Secret: mac.Derive(s.key, "invoice", uint64(len(s.registry.List()))),
		Amount: in.Amount,
		Expiry: in.Expiry,
		Text:   in.Text,
	}
	switch i.Kind {
	case api.InvoicePlain:
		i.Hash = mac.Hash(in.Secret)
	case api.InvoiceHold:
		i.Hash = in.Hash
	}
	if e := s.registry.Add(i, in.Secret); e != api.OK {
		return e
	}
	s.out.Text, _ = invoice.Encode(i)
	return api.OK
}

// pay begins to pay an invoice, with fees of at most most.
func (s *state) pay(text string, most int) api.Errno {
	i, e := invoice.Decode(text)
	if e != api.OK {
		return e
	}
	begun := len(s.payments.List())
	seed, now := mac.Derive(s.key, "pay", uint64(begun)), s.clock(begun+1)
	start := func(p *split.Payments) ([]api.Try, api.Errno) {
		return p.Start(s.graph, i, most, seed, s.height, now)
	}
	// Over channels whose other one is there, if that can be: this is found out with payments that are nobody's.
	s.weigh(now, isUp)
	if _, e := start(split.New(s.config.Node)); e != api.OK {
		s.weigh(now, func(*link) bool { return true })
	}
	tries, e := start(s.payments)
	s.launch(tries)
	return e
}

// launch sends tries on their ways. Those that are refused are failed when all others are sent: these take the room that they were laid for.
func (s *state) launch(tries []api.Try) {
	var refused []offer
	for _, t := range tries {
		if o := s.offerOf(t); !s.offer(o) {
			refused = append(refused, o)
		}
	}
	for _, o := range refused {
		s.refuse(o, api.ReasonNext)
	}
}

// retry is that a try failed; another one takes its place, if that may help.
func (s *state) retry(o offer, hop, reason int) {
	now := s.now()
	s.weigh(now, isUp)
	tries, _ := s.payments.Failed(s.graph, o.payment, o.number, hop, reason, s.height, now)
	s.launch(tries)
}

// now is the time by which what is learnt of channels gets old.
func (s *state) now() int {
	return s.clock(len(s.payments.List()))
}

// clock is that time when so many payments began. It goes on with each of them, and not with ticks alone: what failed at a time is not tried again at that time, but must not be ruled out for the next payment.
func (s *state) clock(begun int) int {
	return min(s.tick+begun, api.MaxExpiry)
}

// offerOf is what the first channel of a try's way is asked to take.
func (s *state) offerOf(t api.Try) offer {
	i, _ := s.payments.Invoice(t.Payment)
	// A way has as many edges as a packet may have hops.
	packet, _ := onion.Build(s.keysOf(t.Way), split.Hops(t, i), s.nonce(t.Payment, t.Number), t.Hash)
	return offer{
		channel: t.Way.Edges[0].Channel,
		amount:  t.Way.Amounts[0],
		expiry:  t.Way.Expiries[0],
		hash:    t.Hash,
		packet:  packet,
		payment: t.Payment,
		number:  t.Number,
	}
}

// blame is at which edge of its way a try failed, and for which reason, as the error on its way back tells.
func (s *state) blame(o offer, b []byte) (hop, reason int) {
	t := s.payments.Tries(o.payment)[o.number]
	keys := onion.Keys(s.keysOf(t.Way), s.nonce(o.payment, o.number))
	place, told, e := onion.Unwrap(keys, b)
	if e != api.OK || len(told) != 1 {
		return nowhere, 0
	}
	// It arose at the node behind the edge of that place, which did not hand it on along the next one.
	return place + 1, int(told[0])
}

// keysOf is the keys for onions of the nodes of a way.
func (s *state) keysOf(way api.Way) [][32]byte {
	var keys [][32]byte
	for _, e := range way.Edges {
		keys = append(keys, Onion(s.config.Seed, e.To))
	}
	return keys
}

// nonce is that of the packet of a try: no other one has it.
func (s *state) nonce(payment [32]byte, number int) [32]byte {
	return mac.Tag(s.key, "nonce", payment[:], mac.Bytes(uint64(number)))
}

// weigh tells the graph what the node's own channels would take now, of those that may be used.
func (s *state) weigh(now int, may func(l *link) bool) {
	s.each(func(l *link) {
		e, ok := s.graph.Get(l.terms.Channel, s.config.Node)
		if !ok {
			return
		}
		e.Capacity = 0
		if l.open && may(l) {
			e.Capacity = s.room(l)
		}
		// This is known, and no guess.
		e.Past = api.Past{Good: e.Capacity, GoodAt: now}
		s.graph.Set(e)
	})
}

func isUp(l *link) bool {
	return l.up
}

// room is how much the channel of l would take, behind what it was asked to take already.
func (s *state) room(l *link) int {
	t, me := l.terms, s.config.Node
	_, v := l.Own()
	has, _ := turned(me == t.B, v.A, v.B)
	asked := s.asked(l, v)
	htlcs, flying := len(asked), 0
	for _, sum := range asked {
		flying, has = more(flying, sum), less(has, sum)
	}
	for _, h := range v.Htlcs {
		if h.By == me {
			htlcs, flying = htlcs+1, more(flying, h.Amount)
		}
	}
	if htlcs >= t.Slots || l.worn() {
		return 0
	}
	if me == t.A {
		has = less(has, t.Fee)
	}
	left := min(less(has, t.Reserve), less(t.Flight, flying))
	if least, ok := s.full[t.Channel]; ok {
		left = min(left, least-1)
	}
	return left
}

// asked is the amounts of the node's own HTLCs that the channel of l was, or will be, asked to take, and that its commitment, which says v, does not have.
func (s *state) asked(l *link, v api.View) []int {
	var amounts []int
	for hook, o := range s.offers {
		if _, there := deal.Place(v, s.config.Node, hook.Id); hook.Channel == l.terms.Channel && !there {
			amounts = append(amounts, o.amount)
		}
	}
	for _, o := range s.waiting {
		if o.channel == l.terms.Channel {
			amounts = append(amounts, o.amount)
		}
	}
	return amounts
}

// less is what is left of x behind y is taken away; 0, if that is more.
func less(x, y int) int {
	left, _ := amount.Sub(x, y)
	return left
}

// more is x and y together; as much as an amount can be, if that is more.
func more(x, y int) int {
	sum, e := amount.Add(x, y)
	if e != api.OK {
		return api.MaxMsat
	}
	return sum
}
