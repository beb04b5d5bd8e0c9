package sim

import (
	"slices"

	"tollhouse/api"
	"tollhouse/invoice"
	"tollhouse/mac"
)

// mostRounds is how many Calm goes on for at most.
const mostRounds = 1000

// Do lets m happen.
func (s *Sim) Do(m api.Move) api.Errno {
	if s.closed() {
		return api.ErrClosed
	}
	if hasA(m.Kind) && !s.isNode(m.A) || hasB(m.Kind) && (!s.isNode(m.B) || m.A == m.B) {
		return api.ErrArg
	}
	switch m.Kind {
	case api.MoveUp:
		return s.up(m.A, m.B)
	case api.MoveLose:
		return s.lose(m.A, m.B)
	case api.MoveCarry:
		return s.carryOne(way{m.A, m.B})
	case api.MoveBlock:
		s.mine(m.Hold)
	case api.MoveCrash:
		return s.crash(m.A, m.N, m.Amount)
	case api.MoveStop:
		s.disks[m.A].Stop(m.N)
	case api.MoveBytes:
		return s.sayBytes(way{m.A, m.B}, m.Bytes)
	case api.MoveCheat:
		return s.cheat(m.A, m.N)
	case api.MoveAll:
		s.carryAll()
	default:
		return s.ask(m)
	}
	return api.OK
}

// ask lets a move happen that asks a node for something.
func (s *Sim) ask(m api.Move) api.Errno {
	switch m.Kind {
	case api.MoveTick:
		return s.tell(m.A, api.Input{Kind: api.InTick})
	case api.MoveInvoice:
		return s.bill(m)
	case api.MovePay:
		return s.about(m, func(x api.Made) api.Input {
			return api.Input{Kind: api.InPay, Text: x.Text, Amount: m.Amount}
		})
	case api.MoveSettle:
		return s.about(m, func(x api.Made) api.Input {
			return api.Input{Kind: api.InSettle, Hash: mac.Hash(x.Preimage), Secret: x.Preimage}
		})
	case api.MoveCancel:
		return s.about(m, func(x api.Made) api.Input {
			return api.Input{Kind: api.InCancel, Secret: x.Secret}
		})
	case api.MoveClose:
		return s.tell(m.A, api.Input{Kind: api.InClose, Number: m.N})
	}
	return api.ErrMove
}

// hasA tells whether moves of a kind are of a node.
func hasA(kind int) bool {
	return kind >= api.MoveUp && kind < api.MoveAll && kind != api.MoveBlock
}

// hasB tells whether moves of a kind are of two nodes.
func hasB(kind int) bool {
	return slices.Contains([]int{api.MoveUp, api.MoveLose, api.MoveCarry, api.MoveBytes}, kind)
}

// up lets two be there for one another.
func (s *Sim) up(a, b int) api.Errno {
	if !s.neighbours(a, b) || s.dead(a) || s.dead(b) || s.there(way{a, b}) {
		return api.ErrMove
	}
	s.meet(a, b)
	s.hand(a, api.Input{Kind: api.InUp, Peer: b})
	s.hand(b, api.Input{Kind: api.InUp, Peer: a})
	return api.OK
}

// lose lets two lose one another.
func (s *Sim) lose(a, b int) api.Errno {
	if !s.there(way{a, b}) {
		return api.ErrMove
	}
	s.part(a, b)
	s.hand(a, api.Input{Kind: api.InDown, Peer: b})
	s.hand(b, api.Input{Kind: api.InDown, Peer: a})
	return api.OK
}

// carryOne carries the first message that is on a way.
func (s *Sim) carryOne(w way) api.Errno {
	if !s.carry(w) {
		return api.ErrNone
	}
	return api.OK
}

// crash cuts a node's power, and lets it begin anew.
func (s *Sim) crash(a, acts, bytes int) api.Errno {
	if s.disks[a].Crash(acts, bytes) != api.OK {
		return api.ErrArg
	}
	// Others may still take it to be there, though it was dead: all are told.
	s.each(func(b int) {
		if b != a {
			s.part(a, b)
			s.hand(b, api.Input{Kind: api.InDown, Peer: a})
		}
	})
	s.open(a)
	s.catchUp(a)
	return api.OK
}

// sayBytes lets a node that may do what it likes say something.
func (s *Sim) sayBytes(w way, b []byte) api.Errno {
	if !s.net.Bad[w.from] || !s.there(w) {
		return api.ErrMove
	}
	s.say(w, slices.Clone(b))
	return api.OK
}

// cheat lets a node that may do what it likes publish a commitment that it had.
func (s *Sim) cheat(a, place int) api.Errno {
	txs := s.pasts[a].txs
	switch {
	case !s.net.Bad[a]:
		return api.ErrMove
	case place < 0 || place >= len(txs):
		return api.ErrNone
	}
	return s.chain.Submit(txs[place])
}

// tell hands a node an input, and is what it refuses.
func (s *Sim) tell(a int, in api.Input) api.Errno {
	_, e := s.hand(a, in)
	return e
}

// bill lets a node make an invoice.
func (s *Sim) bill(m api.Move) api.Errno {
	preimage := mac.Derive(s.net.Seed, "preimage", uint64(len(s.made)))
	out, e := s.hand(m.A, api.Input{Kind: api.InInvoice, Number: m.N, Amount: m.Amount, Expiry: m.Expiry, Text: m.Text, Secret: preimage, Hash: mac.Hash(preimage)})
	if e != api.OK {
		return e
	}
	// Nothing is refused: a node's text is an invoice's.
	i, _ := invoice.Decode(out.Text)
	s.made = append(s.made, api.Made{Node: m.A, Text: out.Text, Secret: i.Secret, Preimage: preimage, Amount: m.Amount, Kind: m.N})
	return api.OK
}

// about hands a node an input about the invoice that a move names, and is what it refuses.
func (s *Sim) about(m api.Move, inputOf func(x api.Made) api.Input) api.Errno {
	if m.N < 0 || m.N >= len(s.made) {
		return api.ErrNone
	}
	return s.tell(m.A, inputOf(s.made[m.N]))
}

// Calm lets all be well, for so many rounds.
func (s *Sim) Calm(rounds int) {
	if s.closed() {
		return
	}
	for range min(rounds, mostRounds) {
		s.calm()
	}
}

// calm is one round in which all is well.
func (s *Sim) calm() {
	s.each(func(i int) {
		if s.dead(i) {
			s.crash(i, 0, 0)
		}
	})
	s.pairs(func(w way) { s.up(w.from, w.to) })
	s.carryAll()
	s.each(func(i int) { s.hand(i, api.Input{Kind: api.InTick}) })
	s.mine(nil)
	s.carryAll()
}
