package channel

import (
	"tollhouse/api"
	"tollhouse/mac"
	"tollhouse/secrets"
	"tollhouse/wire"
)

// On takes what the other one says: what one answers, and notes. What may not be said breaks the channel.
func (c *Channel) On(m api.Msg) ([]api.Msg, []api.Note, api.Errno) {
	switch {
	case c.closed():
		return nil, nil, api.ErrClosed
	case c.broken:
		return nil, nil, api.ErrBroken
	case !wire.May(m) || m.Channel != c.terms.Channel:
		return nil, nil, api.ErrArg
	case !c.up || !c.ready && m.Kind != api.MsgHello:
		return nil, nil, api.ErrDown
	}
	var answers []api.Msg
	var notes []api.Note
	ok := false
	switch m.Kind {
	case api.MsgHello:
		answers, ok = c.onHello(m)
	case api.MsgSign:
		answers, notes, ok = c.onSign(m)
	case api.MsgRevoke:
		notes, ok = c.onRevoke(m)
	default:
		notes, ok = c.onUpdate(m)
	}
	if !ok {
		c.broken = true
		return nil, nil, api.ErrClash
	}
	return answers, notes, api.OK
}

// onUpdate makes m one of the others' updates; false, if the other one may not send it.
func (c *Channel) onUpdate(m api.Msg) ([]api.Note, bool) {
	if c.may(c.theirs.Own, len(c.others), c.Peer(), m) != api.OK {
		return nil, false
	}
	var notes []api.Note
	if m.Kind != api.MsgAdd {
		place, ok := placeOf(c.own, m.Id, false)
		if !ok || place >= c.lockedOwn() {
			return nil, false
		}
		notes = paid(c.own[place], m)
	}
	c.others = append(c.others, wire.Bare(m))
	return notes, true
}

// paid is the note of a MsgFulfil of the own Add add; none of a MsgFail, which may still be taken back.
func paid(add, m api.Msg) []api.Note {
	if m.Kind != api.MsgFulfil {
		return nil
	}
	note := noteOf(api.NotePaid, add)
	note.Secret = m.Secret
	return []api.Note{note}
}

// onSign makes what m signs one's commitment, and takes back the one ahead; false, if m signs another one than it would be.
func (c *Channel) onSign(m api.Msg) ([]api.Msg, []api.Note, bool) {
	if m.Number != c.mine.Number+1 || m.Number > lastNumber {
		return nil, nil, false
	}
	s := api.Signed{Number: m.Number, Own: c.theirs.Own, Other: len(c.others), Tag: m.Tag}
	x, ok := c.ownTx(s)
	want := tag(c.party.Other, x)
	if !ok || !mac.Equal(m.Tag[:], want[:]) {
		return nil, nil, false
	}
	ahead := c.lockedOthers()
	c.mine = s
	return []api.Msg{c.revoke()}, c.lockedSince(ahead), true
}

// onRevoke makes what is pending the other one's commitment, as m takes back the one ahead; false, if m does not.
func (c *Channel) onRevoke(m api.Msg) ([]api.Note, bool) {
	if !c.pending || m.Number != c.theirs.Number || mac.Hash(m.Secret) != c.party.Points[0] || m.Point == [32]byte{} {
		return nil, false
	}
	if c.shelf.Put(m.Secret) != api.OK {
		return nil, false
	}
	ahead := c.lockedOthers()
	forget(c.own[c.theirs.Own:c.next.Own])
	c.theirs, c.next, c.pending = c.next, api.Signed{}, false
	c.party.Points = [2][32]byte{c.party.Points[1], m.Point}
	return c.lockedSince(ahead), true
}

// onHello makes the channel ready, and says again what the other one, by its m, did not hear; false, if it is where it cannot be.
func (c *Channel) onHello(m api.Msg) ([]api.Msg, bool) {
	deaf := m.Told == c.mine.Number-1 // it did not hear that one took back the last commitment
	signed := c.pending && m.Number == c.theirs.Number+1
	if c.ready || !deaf && m.Told != c.mine.Number || !signed && m.Number != c.theirs.Number {
		return nil, false
	}
	c.ready = true
	var taken, pending []api.Msg
	if deaf {
		taken = []api.Msg{c.revoke()}
	}
	if c.pending && !signed {
		pending = c.pendingAgain()
	}
	// As they were said at first: what was signed ahead of one's last commitment does not have what that has.
	l, k := turned(c.next.Other != c.mine.Other, taken, pending)
	return append(l, k...), true
}

// revoke is the MsgRevoke of the commitment ahead of one's own.
func (c *Channel) revoke() api.Msg {
	return api.Msg{
		Kind:    api.MsgRevoke,
		Channel: c.terms.Channel,
		Number:  c.mine.Number - 1,
		Secret:  secrets.At(c.party.Seed, c.mine.Number-1),
		Point:   secrets.Point(c.party.Seed, c.mine.Number+1),
	}
}

// pendingAgain is the own updates that are new in what is pending, and its MsgSign.
func (c *Channel) pendingAgain() []api.Msg {
	var l []api.Msg
	for _, m := range c.own[c.theirs.Own:c.next.Own] {
		l = append(l, wire.Bare(m))
	}
	x, _ := c.nextTx(c.next)
	return append(l, c.signOf(c.next.Number, x))
}

// lockedOthers is how many of the others' updates are locked.
func (c *Channel) lockedOthers() int {
	return min(c.mine.Other, c.theirs.Other)
}

// lockedOwn is how many own updates are locked.
func (c *Channel) lockedOwn() int {
	return min(c.mine.Own, c.theirs.Own)
}

// lockedSince is the notes of the others' updates that are locked, behind the first ahead of them.
func (c *Channel) lockedSince(ahead int) []api.Note {
	var notes []api.Note
	news := c.others[ahead:c.lockedOthers()]
	for _, m := range news {
		switch m.Kind {
		case api.MsgAdd:
			note := noteOf(api.NoteAdd, m)
			note.Expiry, note.Onion = m.Expiry, m.Onion
			notes = append(notes, note)
		case api.MsgFail:
			place, _ := placeOf(c.own, m.Id, false)
			note := noteOf(api.NoteFailed, c.own[place])
			note.Reason = m.Reason
			notes = append(notes, note)
		}
	}
	// The notes have taken these lists over.
	forget(news)
	return notes
}

// forget drops what is asked no more of updates that are never said or noted again.
func forget(l []api.Msg) {
	for i := range l {
		l[i].Onion, l[i].Reason = nil, nil
	}
}
