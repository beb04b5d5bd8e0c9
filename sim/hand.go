package sim

import (
	"slices"

	"tollhouse/api"
	"tollhouse/chain"
	"tollhouse/deal"
)

// hand hands a node an input, and carries out what it says. It tells what the node answered, and what it refused.
func (s *Sim) hand(i int, in api.Input) (api.Output, api.Errno) {
	if s.dead(i) {
		return api.Output{}, api.ErrDead
	}
	out, e := s.nodes[i].On(in)
	for _, m := range out.Msgs {
		s.say(way{i, m.To}, m.Bytes)
	}
	for _, tx := range out.Txs {
		s.chain.Submit(tx)
	}
	if s.dead(i) {
		s.each(func(j int) { s.part(i, j) })
	}
	s.remember(i)
	if e == api.OK {
		e = out.Answer
	}
	return out, e
}

// say puts bytes on their way, if the two are there for one another.
func (s *Sim) say(w way, b []byte) {
	if s.there(w) {
		s.queues[w] = append(s.queues[w], b)
	}
}

// there tells whether two nodes are there for one another.
func (s *Sim) there(w way) bool {
	_, met := s.met[w]
	return met && !s.dead(w.from) && !s.dead(w.to)
}

// meet is that two are there for one another.
func (s *Sim) meet(a, b int) {
	s.met[way{a, b}], s.met[way{b, a}] = struct{}{}, struct{}{}
}

// part is that they are not any more, and what is on its way between them is gone.
func (s *Sim) part(a, b int) {
	for _, w := range []way{{a, b}, {b, a}} {
		delete(s.met, w)
		delete(s.queues, w)
	}
}

// neighbours tells whether two nodes have a channel.
func (s *Sim) neighbours(a, b int) bool {
	return slices.ContainsFunc(s.net.Terms, func(t api.Terms) bool { return deal.Other(t, a) == b })
}

// remember keeps the commitments that a node has and had not ahead, if it may publish them whenever it likes.
func (s *Sim) remember(i int) {
	if !s.net.Bad[i] {
		return
	}
	p := &s.pasts[i]
	for _, t := range s.net.Terms {
		tx, e := s.nodes[i].Close(t.Channel)
		if e != api.OK {
			continue
		}
		number := chain.Id(tx)
		if _, known := p.numbers[number]; !known {
			p.numbers[number] = struct{}{}
			p.txs = append(p.txs, tx)
		}
	}
}

// onWay is how many messages are on a way.
func (s *Sim) onWay(w way) int {
	if !s.there(w) {
		return 0
	}
	return len(s.queues[w])
}

// carry carries the first message that is on a way, and tells whether there was one.
func (s *Sim) carry(w way) bool {
	if s.onWay(w) == 0 {
		return false
	}
	first := s.queues[w][0]
	s.queues[w] = s.queues[w][1:]
	if len(s.queues[w]) == 0 {
		delete(s.queues, w)
	}
	s.hand(w.to, api.Input{Kind: api.InMsg, Peer: w.from, Bytes: first})
	return true
}

// carryAll carries all that is on its way, till nothing is, or too much was.
func (s *Sim) carryAll() {
	left := api.MostCarried
	for again := true; again; {
		again = false
		s.pairs(func(w way) {
			if left > 0 && s.carry(w) {
				again = true
				left--
			}
		})
	}
}

// mine lets the chain make the next block, and hands it to all.
func (s *Sim) mine(hold []int) {
	txs := s.chain.Block(hold)
	for _, tx := range txs {
		s.confirmed(tx)
	}
	b := block{height: s.chain.Height(), txs: txs}
	s.each(func(i int) {
		s.missed[i] = append(s.missed[i], b)
		s.catchUp(i)
	})
}

// confirmed is that a transaction spent outputs of the chain, and has some itself.
func (s *Sim) confirmed(tx api.Tx) {
	for _, in := range tx.Ins {
		delete(s.coins, in.Ref)
	}
	number := chain.Id(tx)
	for place, out := range tx.Outs {
		s.coins[api.Ref{Tx: number, Out: place}] = out
	}
}

// catchUp hands a node the blocks that it missed. One of which it could not take all is still missed.
func (s *Sim) catchUp(i int) {
	for len(s.missed[i]) > 0 && !s.dead(i) {
		b := s.missed[i][0]
		for _, tx := range b.txs {
			s.hand(i, api.Input{Kind: api.InBlock, Height: b.height, Txs: []api.Tx{tx}})
		}
		s.hand(i, api.Input{Kind: api.InBlock, Height: b.height})
		if s.dead(i) {
			return
		}
		s.missed[i] = s.missed[i][1:]
	}
}
