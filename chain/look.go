package chain

import "tollhouse/api"

// Height is that of the last block; 0, if there is none.
func (c *Chain) Height() int {
	if c.closed() {
		return 0
	}
	return c.height
}

// First is the number of the transaction of the beginning.
func (c *Chain) First() [32]byte {
	if c.closed() {
		return [32]byte{}
	}
	return c.first
}

// Confirmed is the confirmed transaction of this number, and in which block it is.
func (c *Chain) Confirmed(id [32]byte) (api.Tx, int, bool) {
	if c.closed() {
		return api.Tx{}, 0, false
	}
	p, ok := c.confirmed[id]
	if !ok {
		return api.Tx{}, 0, false
	}
	return clone(p.tx), p.at, true
}

// Spent is the confirmed transaction that spends r, and in which block it is.
func (c *Chain) Spent(r api.Ref) (api.Tx, int, bool) {
	if c.closed() {
		return api.Tx{}, 0, false
	}
	id, ok := c.spent[r]
	if !ok {
		return api.Tx{}, 0, false
	}
	return c.Confirmed(id)
}

// Unspent is an output that is confirmed and not spent, and in which block it is.
func (c *Chain) Unspent(r api.Ref) (api.Out, int, bool) {
	if c.closed() || !c.isUnspent(api.In{Ref: r}) {
		return api.Out{}, 0, false
	}
	out, at, ok := c.output(r)
	return cloneOut(out), at, ok
}

// Pool is the transactions that wait, in order.
func (c *Chain) Pool() []api.Tx {
	if c.closed() {
		return nil
	}
	l := make([]api.Tx, len(c.pool))
	for i, w := range c.pool {
		l[i] = clone(w.tx)
	}
	return l
}

// Fees is what all confirmed transactions took in more than they gave out.
func (c *Chain) Fees() int {
	if c.closed() {
		return 0
	}
	return c.fees
}

// All is what all unspent outputs sum up to.
func (c *Chain) All() int {
	if c.closed() {
		return 0
	}
	// What there was at the beginning is unspent, or was paid in fees.
	begin, _ := sum(c.confirmed[c.first].tx.Outs...)
	return begin - c.fees
}
