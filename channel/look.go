package channel

import (
	"tollhouse/api"
	"tollhouse/deal"
)

// Own is one's commitment, and its view.
func (c *Channel) Own() (api.Signed, api.View) {
	if c.closed() {
		return api.Signed{}, api.View{}
	}
	v, _ := c.view(c.mine)
	return c.mine, v
}

// Others is the other one's commitment, and its view.
func (c *Channel) Others() (api.Signed, api.View) {
	if c.closed() {
		return api.Signed{}, api.View{}
	}
	v, _ := c.view(c.theirs)
	return c.theirs, v
}

// Pending is the other one's commitment that is pending, and its view.
func (c *Channel) Pending() (api.Signed, api.View, bool) {
	if c.closed() || !c.pending {
		return api.Signed{}, api.View{}, false
	}
	v, _ := c.view(c.next)
	return c.next, v, true
}

// Close is the transaction of one's commitment, as it may be published.
func (c *Channel) Close() (api.Tx, api.Errno) {
	if c.closed() {
		return api.Tx{}, api.ErrClosed
	}
	x, _ := c.ownTx(c.mine)
	own := tag(c.party.Key, x)
	for i := range x.Ins {
		x.Ins[i].TagA, x.Ins[i].TagB = turned(c.isB, own, c.mine.Tag)
	}
	return x, api.OK
}

// Revoked is the other one's secret n, if it was told.
func (c *Channel) Revoked(n int) ([32]byte, bool) {
	if c.closed() {
		return [32]byte{}, false
	}
	return c.shelf.Get(n)
}

// Settled tells whether an own update settles the other one's Htlc id.
func (c *Channel) Settled(id int) bool {
	if c.closed() {
		return false
	}
	_, ok := placeOf(c.own, id, true)
	return ok
}

// Ready tells whether it is up, and the other one said so too.
func (c *Channel) Ready() bool {
	return !c.closed() && c.ready
}

// Broken tells whether the other one did what may not be.
func (c *Channel) Broken() bool {
	return !c.closed() && c.broken
}

// Idle tells whether nothing is left to be done.
func (c *Channel) Idle() bool {
	if c.closed() || c.pending || !c.hasAll(c.mine) || !c.hasAll(c.theirs) {
		return false
	}
	v, _ := c.view(c.mine)
	return len(v.Htlcs) == 0
}

// hasAll tells whether the commitment s has all updates.
func (c *Channel) hasAll(s api.Signed) bool {
	return s.Own == len(c.own) && s.Other == len(c.others)
}

// Terms are the channel's.
func (c *Channel) Terms() api.Terms {
	if c.closed() {
		return api.Terms{}
	}
	return c.terms
}

// Peer is the other one's node.
func (c *Channel) Peer() int {
	if c.closed() {
		return -1
	}
	return deal.Other(c.terms, c.party.Node)
}
