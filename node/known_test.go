package node

import (
	"testing"

	"tollhouse/api"
)

// wantKnown asks whether the node knows the preimage of this number, also when it is opened anew.
func (x *circle) wantKnown(when string, number int, want bool) {
	x.t.Helper()
	again, e := Open(x.c, x.f.Fork())
	if e != api.OK {
		x.t.Fatal("Open", e)
	}
	secret := [32]byte{}
	if want {
		secret = preimage(number)
	}
	for _, n := range []*Node{x.n, again} {
		if s, ok := n.Known(hashOf(number)); ok != want || s != secret {
			x.t.Errorf("%s: Known is %v, %v", when, s, ok)
		}
	}
}

// P24.6, P2: what pays an invoice is known when it was paid, not when it is made, nor while it waits for its other parts.
func TestKnownWhenPaid(t *testing.T) {
	x := newCircle(t)
	a, i := x.pals[7], x.bill(1, api.InvoicePlain, 100)
	x.wantKnown("made", 1, false)
	a.add(60, 40, i.Hash, x.packet(i.Hash, []int{1}, final(i, 60)))
	a.none(api.NotePaid)
	x.wantKnown("a part of two", 1, false)
	a.add(40, 40, i.Hash, x.packet(i.Hash, []int{1}, final(i, 40)))
	if l := a.take(api.NotePaid); len(l) != 2 {
		t.Error("paid", l)
	}
	x.wantKnown("paid", 1, true)
}

// P24.6, P2: what would pay an invoice that is not paid is never known, whatever becomes of it.
func TestNeverKnown(t *testing.T) {
	x := newCircle(t)
	a, i, j := x.pals[7], x.bill(1, api.InvoicePlain, 100), x.bill(2, api.InvoicePlain, 100)
	a.add(60, 40, i.Hash, x.packet(i.Hash, []int{1}, final(i, 60)))
	a.add(60, 40, j.Hash, x.packet(j.Hash, []int{1}, final(j, 60)))
	wantAnswer(t, x.n, api.Input{Kind: api.InSettle, Hash: i.Hash, Secret: preimage(1)}, api.ErrNone)
	if out := x.hand(api.Input{Kind: api.InCancel, Secret: i.Secret}); out.Answer != api.OK {
		t.Error("InCancel", out.Answer)
	}
	x.wantReason(a, 0, api.ReasonGone, 1)
	for range x.c.Wait {
		x.hand(api.Input{Kind: api.InTick})
	}
	x.wantReason(a, 0, api.ReasonTimeout, 1)
	x.wantKnown("cancelled", 1, false)
	x.wantKnown("waited for too long", 2, false)
	x.height(j.Expiry + 1)
	x.wantKnown("expired", 2, false)
}

// P24.6: a secret that the node was told is known, also if an invoice of its own that is not paid has that hash.
func TestKnownWhenTold(t *testing.T) {
	x := newCircle(t)
	a, b := x.pals[7], x.pals[9]
	x.bill(1, api.InvoicePlain, 100)
	a.add(301, 40, hashOf(1), x.packet(hashOf(1), []int{1, 2}, next(300, 25)...))
	n := b.one(api.NoteAdd)
	x.wantKnown("handed on", 1, false)
	b.fulfil(n.Id, preimage(1))
	x.wantKnown("told", 1, true)
}
