package registry

import (
	"math"
	"testing"

	"tollhouse/api"
)

// P20.3: how long a set waits: from its first part on.
func TestTickTimeout(t *testing.T) {
	i := want(1, api.InvoicePlain)
	for _, c := range []struct{ first, second, at, fails int }{
		{1, 1, 10, 0},
		{1, 1, 11, 1},
		{1, 8, 11, 1},
		{8, 1, 17, 0},
		{8, 1, 18, 1},
		// Ticks may go back.
		{100, 100, 5, 0},
		// Below 0 is 0, beyond MaxExpiry is MaxExpiry.
		{-100, 3, 9, 0},
		{-100, 3, 10, 1},
		{math.MinInt, 3, math.MinInt, 0},
		{math.MinInt, 3, math.MaxInt, 1},
		{api.MaxExpiry - 10, 3, math.MaxInt, 1},
		{api.MaxExpiry - 9, 3, math.MaxInt, 0},
		{math.MaxInt, 3, math.MaxInt, 0},
		{math.MaxInt, 3, -1, 0},
	} {
		g := fresh(t, i)
		g.Take(piece(i, 1, 30, 100), 1, c.first)
		g.Take(piece(i, 2, 30, 100), 1, c.second)
		acts := g.Tick(1, c.at)
		if c.fails == 0 {
			wantActs(t, "in time", acts)
			wantState(t, "in time", g, i.Secret, api.InvoiceOpen, 60)
			continue
		}
		wantActs(t, "too late", acts, failed(1, api.ReasonTimeout), failed(2, api.ReasonTimeout))
		wantState(t, "too late", g, i.Secret, api.InvoiceOpen, 0)
		wantActs(t, "gone", g.Tick(1, c.at))
		if g.Held() != 0 {
			t.Error("Held", g.Held())
		}
	}
}

// P20.3: a wait of 1, and of MaxExpiry.
func TestTickWaits(t *testing.T) {
	i := want(1, api.InvoicePlain)
	for _, wait := range []int{1, api.MaxExpiry} {
		g, _ := New(2, rules(), wait)
		add(g, i)
		g.Take(piece(i, 1, 30, 100), 1, 0)
		wantActs(t, "in time", g.Tick(1, wait-1))
		wantActs(t, "too late", g.Tick(1, wait), failed(1, api.ReasonTimeout))
	}
}

// P20.3: a set begins anew at another tick, and with another Total, when it was failed.
func TestTickAnew(t *testing.T) {
	i := want(1, api.InvoicePlain)
	g := fresh(t, i)
	g.Take(piece(i, 1, 30, 100), 1, 1)
	g.Tick(1, 11)
	wantActs(t, "anew", g.Take(piece(i, 1, 30, 150), 1, 11))
	wantActs(t, "in time", g.Tick(1, 20))
	wantActs(t, "whole", g.Take(piece(i, 2, 120, 150), 1, 20), paid(1, secretOf(1)), paid(2, secretOf(1)))
}

// P20.3: what expires soon is failed, whatever waits; an invoice that is held is cancelled then.
func TestTickSoon(t *testing.T) {
	plain, hold := want(1, api.InvoicePlain), want(2, api.InvoiceHold)
	for _, height := range []int{38, 39, 40, 1000, math.MaxInt} {
		g := fresh(t, hold, plain)
		later := piece(plain, 1, 30, 100)
		later.Expiry = 60
		g.Take(later, 1, 1)
		g.Take(piece(plain, 2, 30, 100), 1, 1)
		g.Take(piece(hold, 3, 30, 100), 1, 1)
		later = piece(hold, 4, 70, 100)
		later.Expiry = 60
		g.Take(later, 1, 1)
		wantActs(t, "in time", g.Tick(37, 1))
		wantActs(t, "in time", g.Tick(math.MinInt, 1))
		wantState(t, "held", g, hold.Secret, api.InvoiceHeld, 100)
		// Too late as well: that it is soon goes ahead.
		wantActs(t, "soon", g.Tick(height, 100), failed(3, api.ReasonSoon), failed(4, api.ReasonSoon), failed(1, api.ReasonSoon), failed(2, api.ReasonSoon))
		wantState(t, "cancelled", g, hold.Secret, api.InvoiceCancelled, 0)
		wantState(t, "open", g, plain.Secret, api.InvoiceOpen, 0)
		if g.Held() != 0 {
			t.Error("Held", g.Held())
		}
		_, e := g.Settle(hold.Hash, secretOf(2))
		wantErr(t, "Settle", e, api.ErrState)
		_, e = g.Cancel(hold.Secret)
		wantErr(t, "Cancel", e, api.ErrState)
	}
}

// P20.3: an invoice that is not whole stays open, whatever kind it is of.
func TestTickStaysOpen(t *testing.T) {
	hold := want(2, api.InvoiceHold)
	g := fresh(t, hold)
	g.Take(piece(hold, 1, 30, 100), 1, 1)
	wantActs(t, "soon", g.Tick(38, 1), failed(1, api.ReasonSoon))
	wantState(t, "soon", g, hold.Secret, api.InvoiceOpen, 0)
	g.Take(piece(hold, 1, 30, 100), 1, 1)
	wantActs(t, "too late", g.Tick(1, 11), failed(1, api.ReasonTimeout))
	wantState(t, "too late", g, hold.Secret, api.InvoiceOpen, 0)
	g.Take(piece(hold, 1, 100, 100), 1, 1)
	wantActs(t, "held: nobody waits for more", g.Tick(1, math.MaxInt))
	wantState(t, "held", g, hold.Secret, api.InvoiceHeld, 100)
}

// P20.3: invoices in the order in which they were added, sets in the order in which they began.
func TestTickOrder(t *testing.T) {
	a, b, c := want(1, api.InvoiceSet), want(2, api.InvoicePlain), want(3, api.InvoiceSet)
	g := fresh(t, c, a, b)
	of := func(i api.Invoice, name, id, expiry int) api.Part {
		p := piece(i, id, 10, 100)
		p.Expiry, p.Hop.Expiry = expiry, 0
		if name > 0 {
			p.Hop.Set = nameOf(name)
		}
		return p
	}
	for tick, p := range []api.Part{of(b, 0, 1, 60), of(a, 9, 2, 50), of(a, 7, 3, 60), of(c, 7, 4, 60), of(a, 8, 5, 60), of(a, 9, 6, 60), of(c, 6, 7, 30), of(a, 7, 8, 60)} {
		wantActs(t, "Take", g.Take(p, 1, tick))
	}
	// Too late are b's set and those of a named 9 and 7; soon is that of c named 6.
	wantActs(t, "some", g.Tick(28, 12),
		failed(7, api.ReasonSoon),
		failed(2, api.ReasonTimeout), failed(6, api.ReasonTimeout), failed(3, api.ReasonTimeout), failed(8, api.ReasonTimeout),
		failed(1, api.ReasonTimeout))
	g.Take(of(a, 9, 9, 60), 1, 12)
	g.Take(of(a, 8, 10, 60), 1, 12)
	g.Take(of(c, 5, 11, 60), 1, 12)
	wantActs(t, "all", g.Tick(100, 12),
		failed(4, api.ReasonSoon), failed(11, api.ReasonSoon),
		failed(5, api.ReasonSoon), failed(10, api.ReasonSoon), failed(9, api.ReasonSoon))
}

// P20.4: what Settle refuses, the first error first; and what it pays.
func TestSettle(t *testing.T) {
	plain, hold, set := want(1, api.InvoicePlain), want(2, api.InvoiceHold), want(3, api.InvoiceSet)
	g := fresh(t, plain, hold, set)
	settle := func(name string, hash, secret [32]byte, want api.Errno, all ...api.Act) {
		t.Helper()
		acts, e := g.Settle(hash, secret)
		wantErr(t, name, e, want)
		wantActs(t, name, acts, all...)
	}
	g.Take(piece(plain, 1, 60, 100), 1, 1)
	settle("none", hashOf(9), secretOf(9), api.ErrNone)
	settle("plain", plain.Hash, secretOf(1), api.ErrNone)
	settle("a set", set.Hash, secretOf(3), api.ErrNone)
	settle("its Secret", hold.Secret, secretOf(2), api.ErrNone)
	settle("open", hold.Hash, secretOf(2), api.ErrState)
	settle("open, by another secret", hold.Hash, secretOf(1), api.ErrState)
	g.Take(piece(hold, 3, 60, 100), 1, 1)
	settle("not whole", hold.Hash, secretOf(2), api.ErrState)
	g.Take(piece(hold, 2, 70, 100), 1, 1)
	wantState(t, "whole", g, hold.Secret, api.InvoiceHeld, 130)
	settle("another secret", hold.Hash, secretOf(1), api.ErrSecret)
	settle("the hash", hold.Hash, hold.Hash, api.ErrSecret)
	wantState(t, "whole still", g, hold.Secret, api.InvoiceHeld, 130)
	settle("settled", hold.Hash, secretOf(2), api.OK, paid(3, secretOf(2)), paid(2, secretOf(2)))
	wantState(t, "settled", g, hold.Secret, api.InvoiceSettled, 130)
	settle("once", hold.Hash, secretOf(2), api.ErrState)
	if g.Held() != 1 || !g.Holds(hook(1)) {
		t.Error("Held", g.Held())
	}
}

// P20.4: what Cancel refuses; and what it fails, set by set.
func TestCancel(t *testing.T) {
	plain, hold, set := want(1, api.InvoicePlain), want(2, api.InvoiceHold), want(3, api.InvoiceSet)
	g := fresh(t, plain, hold, set)
	cancel := func(name string, secret [32]byte, want api.Errno, all ...api.Act) {
		t.Helper()
		acts, e := g.Cancel(secret)
		wantErr(t, name, e, want)
		wantActs(t, name, acts, all...)
	}
	cancel("none", nameOf(9), api.ErrNone)
	cancel("by its hash", plain.Hash, api.ErrNone)
	cancel("by what pays it", secretOf(1), api.ErrNone)
	g.Take(piece(plain, 1, 100, 100), 1, 1)
	cancel("settled", plain.Secret, api.ErrState)
	wantState(t, "settled", g, plain.Secret, api.InvoiceSettled, 100)
	g.Take(piece(hold, 3, 60, 100), 1, 1)
	g.Take(piece(hold, 2, 40, 100), 1, 1)
	cancel("held", hold.Secret, api.OK, failed(3, api.ReasonGone), failed(2, api.ReasonGone))
	wantState(t, "held", g, hold.Secret, api.InvoiceCancelled, 0)
	cancel("cancelled", hold.Secret, api.ErrState)
	_, e := g.Settle(hold.Hash, secretOf(2))
	wantErr(t, "Settle", e, api.ErrState)
	a, b := pieces(set, nameOf(11), 3, 100, 10), pieces(set, nameOf(12), 3, 100, 20)
	for _, p := range []api.Part{b[1], a[2], b[0], a[0]} {
		g.Take(p, 1, 1)
	}
	cancel("sets", set.Secret, api.OK, failed(21, api.ReasonGone), failed(20, api.ReasonGone), failed(12, api.ReasonGone), failed(10, api.ReasonGone))
	wantState(t, "sets", g, set.Secret, api.InvoiceCancelled, 0)
	wantActs(t, "nothing is left", g.Tick(1000, 1000))
	wantActs(t, "gone", g.Take(a[1], 1, 1), failed(11, api.ReasonGone))
	if g.Held() != 0 || len(g.List()) != 3 {
		t.Error("Held", g.Held())
	}
	// Nothing was held: nothing is failed.
	g = fresh(t, plain)
	cancel("open", plain.Secret, api.OK)
	wantState(t, "open", g, plain.Secret, api.InvoiceCancelled, 0)
}

// P20.5: of what is not there.
func TestNone(t *testing.T) {
	g := fresh(t, want(1, api.InvoicePlain))
	wantState(t, "none", g, nameOf(2), 0, 0)
	wantState(t, "zeros", g, [32]byte{}, 0, 0)
	wantState(t, "a hash", g, hashOf(1), 0, 0)
	if g.Holds(api.Hook{}) || g.Holds(hook(1)) || g.Held() != 0 {
		t.Error("something is held")
	}
	if a, _ := New(2, rules(), 10); len(a.List()) != 0 {
		t.Error("two new ones are one")
	}
}
