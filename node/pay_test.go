package node

import (
	"testing"

	"tollhouse/api"
	"tollhouse/invoice"
)

// What a channel refused is not asked of it again while one input is done.
func TestRefused(t *testing.T) {
	x := newCircle(t)
	s := &x.n.state
	s.full = map[int]int{}
	l := s.links[9]
	if room := s.room(l); room != 999 {
		t.Fatal("room", room)
	}
	for _, c := range []struct{ sum, room int }{{5000, 999}, {500, 499}, {800, 499}, {1, 0}} {
		o := offer{channel: 9, amount: c.sum, hash: hashOf(1), packet: []byte("none that may be")}
		if s.send(l, o) {
			t.Error("taken", c.sum)
		}
		if room := s.room(l); room != c.room {
			t.Error("room behind", c.sum, room)
		}
	}
	on(t, x.n, api.Input{Kind: api.InTick})
	s.full = nil
	if room := s.room(l); room != 999 {
		t.Error("room behind all", room)
	}
}

// A channel whose last commitment is signed takes nothing more: it could never be sure.
func TestWorn(t *testing.T) {
	x := newCircle(t)
	a := x.pals[7]
	l := x.n.links[7]
	pay := func(n int) int {
		i := api.Invoice{Node: 0, Kind: api.InvoicePlain, Hash: hashOf(n), Secret: [32]byte{byte(n)}, Amount: 10, Expiry: 90}
		text, _ := invoice.Encode(i)
		x.hand(api.Input{Kind: api.InPay, Text: text})
		state, _, _ := x.n.Payment(i.Secret)
		return state
	}
	if s := pay(1); s != api.PayOpen {
		t.Fatal("Payment", s)
	}
	for !l.worn() {
		a.add(10, 40, hashOf(5), make([]byte, api.OnionSize))
		a.take(api.NoteFailed)
	}
	if s := pay(2); s != api.PayFailed || l.Broken() {
		t.Error("Payment", s, l.Broken())
	}
	if last, _ := l.Others(); last.Number != api.MaxSecrets-3 {
		t.Error("the last commitment", last)
	}
}
