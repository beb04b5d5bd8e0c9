package node

import (
	"tollhouse/api"
	"tollhouse/channel"
	"tollhouse/deal"
	"tollhouse/wire"
)

// link is a channel of the node's, and what became of it.
type link struct {
	*channel.Channel
	terms  api.Terms
	open   bool
	up     bool       // the other one is there; it is ready as soon as that said so too
	spent  bool       // its money was spent on the chain
	closed api.Closed // how, if it was
	tx     [32]byte   // the number of the transaction that did
	taken  []bool     // which of its outputs are spent
}

// up is that the other one is there.
func (s *state) up(l *link) {
	l.up = true
	if m, e := l.Up(); e == api.OK {
		s.say(l, m)
	}
}

// down is that the other one is not there any more: what was not signed is to be offered anew.
func (s *state) down(l *link) {
	l.up = false
	for _, note := range l.Down() {
		s.dropped(hookOf(note))
	}
}

// hear takes bytes from a peer.
func (s *state) hear(peer int, b []byte) api.Errno {
	m, e := wire.Decode(b)
	if e != api.OK {
		return e
	}
	l := s.links[m.Channel]
	if l == nil || !l.open || l.Peer() != peer {
		return api.ErrNone
	}
	answers, notes, e := l.On(m)
	for _, answer := range answers {
		s.say(l, answer)
	}
	for _, note := range notes {
		s.note(note)
	}
	if l.Broken() {
		s.shut(l)
	}
	return e
}

// note takes what a channel tells of an HTLC.
func (s *state) note(note api.Note) {
	switch note.Kind {
	case api.NoteAdd:
		s.come(note)
	case api.NotePaid:
		s.paid(hookOf(note), note.Secret)
	case api.NoteFailed:
		s.failed(hookOf(note), note.Reason)
	}
}

// sign signs what is new, if it may be signed now.
func (s *state) sign(l *link) {
	if !l.open {
		return
	}
	if m, ok := l.Sign(); ok {
		s.say(l, m)
	}
}

// settle pays and fails all that is to be, where the channel is ready, and forgets what is gone.
func (s *state) settle() {
	var there func(id int, x end) bool
	for i, hooks := 0, inOrder(s.ends); i < len(hooks); i++ {
		hook, l := hooks[i], s.links[hooks[i].Channel]
		if i == 0 || hook.Channel != hooks[i-1].Channel {
			there = l.holds()
		}
		x := s.ends[hook]
		if !there(hook.Id, x) {
			delete(s.ends, hook)
			s.circuits.Done(hook)
		} else if l.open && !l.Settled(hook.Id) {
			s.settleOne(l, hook.Id, x)
		}
	}
}

// settleOne pays or fails an HTLC, if the channel is ready.
func (s *state) settleOne(l *link, id int, x end) {
	var m api.Msg
	var e api.Errno
	if x.pay {
		m, e = l.Fulfil(id, x.secret)
	} else {
		m, e = l.Fail(id, x.reason)
	}
	if e == api.OK {
		s.say(l, m)
	}
}

// holds tells of HTLCs of the other one whether there is still something to be done that they end so.
func (l *link) holds() func(id int, x end) bool {
	if l.spent {
		// On the chain one need do nothing to fail one, and cannot do anything for one that is not worth it.
		return func(id int, x end) bool {
			place, ok := deal.Place(l.closed.View, l.Peer(), id)
			return ok && x.pay && !l.taken[place] && l.worth(place)
		}
	}
	// One's own commitment is the last one that it leaves.
	_, v := l.Own()
	return func(id int, _ end) bool {
		_, ok := deal.Place(v, l.Peer(), id)
		return ok
	}
}

// worth tells whether an output on the chain is worth to be claimed.
func (l *link) worth(place int) bool {
	return l.closed.Tx.Outs[place].Amount > l.terms.Fee
}

func hookOf(note api.Note) api.Hook {
	return api.Hook{Channel: note.Channel, Id: note.Id}
}
