package channel

import (
	"tollhouse/api"
	"tollhouse/mac"
	"tollhouse/updates"
	"tollhouse/wire"
)

// Add is a new Htlc of one's own: its Id, and what the other one is told.
func (c *Channel) Add(amount, expiry int, hash [32]byte, onion []byte) (int, api.Msg, api.Errno) {
	if e := c.unready(); e != api.OK {
		return 0, api.Msg{}, e
	}
	m := api.Msg{
		Kind:    api.MsgAdd,
		Channel: c.terms.Channel,
		Id:      updates.Adds(c.own, len(c.own)),
		Amount:  amount,
		Expiry:  expiry,
		Hash:    hash,
		Onion:   onion,
	}
	if e := c.may(len(c.own), c.mine.Other, c.party.Node, m); e != api.OK {
		return 0, api.Msg{}, e
	}
	return m.Id, c.send(m), api.OK
}

// Fulfil settles the other one's Htlc id by its secret.
func (c *Channel) Fulfil(id int, secret [32]byte) (api.Msg, api.Errno) {
	return c.settle(api.Msg{Kind: api.MsgFulfil, Id: id, Secret: secret}, func(add api.Msg) api.Errno {
		if mac.Hash(secret) != add.Hash {
			return api.ErrSecret
		}
		return api.OK
	})
}

// Fail settles the other one's Htlc id for a reason.
func (c *Channel) Fail(id int, reason []byte) (api.Msg, api.Errno) {
	return c.settle(api.Msg{Kind: api.MsgFail, Id: id, Reason: reason}, func(api.Msg) api.Errno {
		if len(reason) > api.MaxReason {
			return api.ErrLong
		}
		return api.OK
	})
}

// settle makes m an own update that settles the other one's Htlc, if it is good for the Add of that.
func (c *Channel) settle(m api.Msg, good func(add api.Msg) api.Errno) (api.Msg, api.Errno) {
	if e := c.unready(); e != api.OK {
		return api.Msg{}, e
	}
	place, ok := placeOf(c.others, m.Id, false)
	switch {
	case !ok || c.Settled(m.Id):
		return api.Msg{}, api.ErrNone
	case place >= c.lockedOthers():
		return api.Msg{}, api.ErrEarly
	}
	if e := good(c.others[place]); e != api.OK {
		return api.Msg{}, e
	}
	m.Channel = c.terms.Channel
	return c.send(m), api.OK
}

// send makes m an own update, and is what the other one is told.
func (c *Channel) send(m api.Msg) api.Msg {
	c.own = append(c.own, wire.Bare(m))
	return wire.Bare(m)
}

// Sign makes a commitment of the other one pending, if it would have other updates than the one that it has.
func (c *Channel) Sign() (api.Msg, bool) {
	if c.unready() != api.OK || c.pending || c.theirs.Number >= lastNumber {
		return api.Msg{}, false
	}
	next := api.Signed{Number: c.theirs.Number + 1, Own: len(c.own), Other: c.mine.Other}
	if next.Own == c.theirs.Own && next.Other == c.theirs.Other {
		return api.Msg{}, false
	}
	x, ok := c.nextTx(next)
	if !ok {
		return api.Msg{}, false
	}
	c.next, c.pending = next, true
	return c.signOf(next.Number, x), true
}

// unready is why nothing can be sent; OK, if it can.
func (c *Channel) unready() api.Errno {
	switch {
	case c.closed():
		return api.ErrClosed
	case c.broken:
		return api.ErrBroken
	case !c.ready:
		return api.ErrDown
	}
	return api.OK
}

// signOf is the MsgSign of the other one's commitment of that number, whose transaction is x.
func (c *Channel) signOf(number int, x api.Tx) api.Msg {
	return api.Msg{Kind: api.MsgSign, Channel: c.terms.Channel, Number: number, Tag: tag(c.party.Key, x)}
}
