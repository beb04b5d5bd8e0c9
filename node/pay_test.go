package node

import (
	"testing"

	"tollhouse/api"
	"tollhouse/invoice"
)

// What a channel refused is not asked of it again while one input is done.
func TestRefused(t *testing.T) {
	x := newCircle(t)
	s := &x.n.state
	s.full = map[int]int{}
	l := s.links[9]
	if room := s.room(l); room != 999 {
		t.Fatal("room", room)
	}
	for _, c := range []struct{ sum, room int }{{5000, 999}, {500, 499}, {800, 499}, {1, 0}} {
		o := offer{channel: 9, amount: c.sum, hash: hashOf(1), packet: []byte("none that may be")}
		if s.send(l, o) {
			t.Error("taken", c.sum)
		}
		if room := s.room(l); room != c.room {
			t.Error("room behind", c.sum, room)
		}
	}
	on(t, x.n, api.Input{Kind: api.InTick})
	if room := s.room(l); room != 999 {
		t.Error("room behind all", room)
	}
}

// A channel whose last commitment is signed takes nothing more: it could never be sure.
func TestWorn(t *testing.T) {
	x := newCircle(t)
	a := x.pals[7]
	l := x.n.links[7]
	pay := func(n int) int {
		i := api.Invoice{Node: 0, Kind: api.InvoicePlain, Hash: hashOf(n), Secret: [32]byte{byte(n)}, Amount: 10, Expiry: 90}
		text, _ := invoice.Encode(i)
		x.hand(api.Input{Kind: api.InPay, Text: text})
		state, _, _ := x.n.Payment(i.Secret)
		return state
	}
	if s := pay(1); s != api.PayOpen {
		t.Fatal("Payment", s)
	}
	for !l.worn() {
		a.add(10, 40, hashOf(5), make([]byte, api.OnionSize))
		a.take(api.NoteFailed)
	}
	if s := pay(2); s != api.PayFailed || l.Broken() {
		t.Error("Payment", s, l.Broken())
	}
	if last, _ := l.Others(); last.Number != api.MaxSecrets-3 {
		t.Error("the last commitment", last)
	}
	b := x.pals[9]
	b.add(31, 40, hashOf(3), x.packet(hashOf(3), []int{1, 0}, api.Hop{Channel: 7, Amount: 30, Expiry: 25}, api.Hop{Amount: 30, Expiry: 25, Total: 30}))
	x.wantReason(b, 0, api.ReasonNext, 1, 0)
}

// A payment whose error nobody can read is given up.
func TestStrangeError(t *testing.T) {
	for _, reason := range [][]byte{nil, []byte("what"), make([]byte, 96)} {
		x := newCircle(t)
		b := x.pals[9]
		i, text := billOf(t, 1, api.InvoicePlain, 100)
		x.hand(api.Input{Kind: api.InPay, Text: text})
		b.fail(b.one(api.NoteAdd).Id, reason)
		if s, _, _ := x.n.Payment(i.Secret); s != api.PayOpen {
			t.Error("failed ahead of being sure", s)
		}
		b.sign()
		if s, _, _ := x.n.Payment(i.Secret); s != api.PayFailed || len(x.n.Tries(i.Secret)) != 1 || !x.n.Idle() {
			t.Error("Payment", s)
		}
	}
}

// Who told a secret and then fails the HTLC has paid for it: the node is paid, and gets its own back.
func TestPaidAndFailed(t *testing.T) {
	x := newCircle(t)
	a, b := x.pals[7], x.pals[9]
	a.add(301, 40, hashOf(1), x.packet(hashOf(1), []int{1, 2}, next(300, 25)...))
	n := b.one(api.NoteAdd)
	b.fulfil(n.Id, preimage(1))
	i, text := billOf(t, 2, api.InvoicePlain, 100)
	x.hand(api.Input{Kind: api.InPay, Text: text})
	m := b.one(api.NoteAdd)
	x.deaf = true
	b.fulfil(m.Id, preimage(2))
	x.queue = nil
	x.deaf = false
	x.hand(api.Input{Kind: api.InDown, Peer: 2})
	x.hand(api.Input{Kind: api.InUp, Peer: 2})
	b.fail(m.Id, nil)
	b.sign()
	if s, paid, _ := x.n.Payment(i.Secret); s != api.PayDone || paid != 100 {
		t.Error("Payment", s, paid)
	}
	if p := x.n.Purse(); p.Open != 1501 || !x.n.Idle() {
		t.Error("Purse", p)
	}
	a.one(api.NotePaid)
}

// MaxCircuits: one more is failed.
func TestMaxCircuits(t *testing.T) {
	x := newCircle(t, func(c *api.Config) {
		c.Terms = nil
		for k := range 16 {
			c.Terms = append(c.Terms, between(1+k, 0, 1, 1000, 1000), between(101+k, 1, 2, 1000, 1000))
		}
	})
	for k := range api.MaxCircuits {
		hop := api.Hop{Channel: 101 + k/16, Amount: 10, Expiry: 25}
		x.pals[1+k/16].add(11, 40, hashOf(1), x.packet(hashOf(1), []int{1, 2}, hop, api.Hop{Amount: 10, Expiry: 25, Total: 10}))
		x.pals[101+k/16].one(api.NoteAdd)
	}
	b := x.pals[101]
	back := x.packet(hashOf(1), []int{1, 0}, api.Hop{Channel: 1, Amount: 10, Expiry: 25}, api.Hop{Amount: 10, Expiry: 25, Total: 10})
	b.add(11, 40, hashOf(1), back)
	x.wantReason(b, 0, api.ReasonNext, 1, 0)
	// One that ended makes room.
	b.fulfil(0, preimage(1))
	b.sign()
	b.add(11, 40, hashOf(1), back)
	x.pals[1].one(api.NoteAdd)
}
