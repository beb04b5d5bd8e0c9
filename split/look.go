package split

import (
	"slices"

	"tollhouse/api"
)

// State is the state of the payment of this id, what was paid, and the fees of that.
func (p *Payments) State(id [32]byte) (state, paid, fees int) {
	x := p.find(id)
	if x == nil {
		return 0, 0, 0
	}
	paid, fees = x.sum(isPaid)
	return x.state, paid, fees
}

// Tries is all tries of the payment of this id, in order.
func (p *Payments) Tries(id [32]byte) []api.Try {
	x := p.find(id)
	if x == nil {
		return nil
	}
	return clones(x.tries)
}

// Flying is how many tries of all payments are flying.
func (p *Payments) Flying() int {
	if p.closed() {
		return 0
	}
	sum := 0
	for _, x := range p.payments {
		sum += len(x.flying)
	}
	return sum
}

// List is the payments, in the order in which they began.
func (p *Payments) List() [][32]byte {
	if p.closed() {
		return nil
	}
	return slices.Clone(p.order)
}

// Invoice is what the payment of this id is for.
func (p *Payments) Invoice(id [32]byte) (api.Invoice, bool) {
	x := p.find(id)
	if x == nil {
		return api.Invoice{}, false
	}
	return x.invoice, true
}

// Hops is what the onion tells the nodes of the way of t, which pays for i.
func Hops(t api.Try, i api.Invoice) []api.Hop {
	edges := t.Way.Edges
	if len(edges) == 0 {
		return nil
	}
	var hops []api.Hop
	for k := 1; k < len(edges); k++ {
		hops = append(hops, api.Hop{Channel: edges[k].Channel, Amount: at(t.Way.Amounts, k), Expiry: at(t.Way.Expiries, k)})
	}
	last := len(edges) - 1
	return append(hops, api.Hop{
		Amount: t.Amount,
		Expiry: at(t.Way.Expiries, last),
		Secret: i.Secret,
		Total:  i.Amount,
		Set:    t.Set,
		Index:  t.Part,
		Share:  t.Share,
	})
}

// find is the payment of this id, or nil.
func (p *Payments) find(id [32]byte) *payment {
	if p.closed() {
		return nil
	}
	return p.payments[id]
}

// at is what l has at a place; nothing behind its end: a try that nobody laid may have any lists.
func at(l []int, place int) int {
	if place >= len(l) {
		return 0
	}
	return l[place]
}

func clones(l []api.Try) []api.Try {
	out := make([]api.Try, len(l))
	for i, t := range l {
		out[i] = clone(t)
	}
	return out
}

// clone is t in memory of its own.
func clone(t api.Try) api.Try {
	t.Way.Edges = slices.Clone(t.Way.Edges)
	t.Way.Amounts = slices.Clone(t.Way.Amounts)
	t.Way.Expiries = slices.Clone(t.Way.Expiries)
	return t
}
