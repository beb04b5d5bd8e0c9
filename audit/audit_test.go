package audit

import (
	"testing"

	"tollhouse/api"
	"tollhouse/mac"
	"tollhouse/sim"
	"tollhouse/wire"
)

// row is a net of nodes in a row, the i-th channel (from 1 on) between i - 1 and i. Those of bad may do what they like.
func row(nodes int, bad ...int) api.Net {
	n := api.Net{Nodes: nodes, Seed: [32]byte{78}, Wait: 5, Margin: 3, Bad: make([]bool, nodes)}
	for i := range nodes {
		n.Rules = append(n.Rules, api.Rules{Fees: api.Fees{Base: 7}, Delta: 20, Grace: 8, Far: 300})
		if i > 0 {
			n.Terms = append(n.Terms, api.Terms{Channel: i, A: i - 1, B: i, StartA: 1000, StartB: 1000, Delay: 2, Fee: 3, Slots: 8, Flight: 1 << 40})
		}
	}
	for _, i := range bad {
		n.Bad[i] = true
	}
	return n
}

// begin is the net of n.
func begin(t *testing.T, n api.Net) *sim.Sim {
	t.Helper()
	s, e := sim.New(n)
	if e != api.OK {
		t.Fatal("New", e)
	}
	return s
}

// do lets moves happen, which may all be.
func do(t *testing.T, s *sim.Sim, moves ...api.Move) {
	t.Helper()
	for _, m := range moves {
		if e := s.Do(m); e != api.OK {
			t.Fatalf("%+v: %d", m, e)
		}
	}
}

// meeting is the net of n, whose neighbours are there for one another.
func meeting(t *testing.T, n api.Net) *sim.Sim {
	t.Helper()
	s := begin(t, n)
	for _, x := range n.Terms {
		do(t, s, api.Move{Kind: api.MoveUp, A: x.A, B: x.B})
	}
	do(t, s, api.Move{Kind: api.MoveAll})
	return s
}

// pay lets a node make an invoice, and another one begin to pay it.
func pay(t *testing.T, s *sim.Sim, payer, payee, kind, sum int) {
	t.Helper()
	place := len(s.Made())
	do(t, s,
		api.Move{Kind: api.MoveInvoice, A: payee, N: kind, Amount: sum, Expiry: 90},
		api.Move{Kind: api.MovePay, A: payer, N: place, Amount: 50},
		api.Move{Kind: api.MoveAll})
}

// wantBooks asks what the books tell, and that all is there.
func wantBooks(t *testing.T, s *sim.Sim, want api.Audit) {
	t.Helper()
	if b := Books(s); b != want || !Whole(s) {
		t.Errorf("Books %+v, not %+v; Whole %v", b, want, Whole(s))
	}
}

// wantDue asks what is due to each node.
func wantDue(t *testing.T, s *sim.Sim, want ...int) {
	t.Helper()
	for i, due := range want {
		if d := Due(s, i); d != due {
			t.Errorf("to node %d %d are due, not %d", i, d, due)
		}
	}
}

// wantShort asks by how much each node is short.
func wantShort(t *testing.T, s *sim.Sim, want ...int) {
	t.Helper()
	for i, short := range want {
		if d := Short(s, i); d != short {
			t.Errorf("node %d is short by %d, not %d", i, d, short)
		}
	}
}

// Example 1 of chapter 26: a net at its beginning.
func TestBeginning(t *testing.T) {
	s := begin(t, row(3))
	wantBooks(t, s, api.Audit{Start: 4000, Open: 4000})
	wantDue(t, s, 1000, 2000, 1000)
	wantShort(t, s, 0, 0, 0)
	if l := Deals(s); len(l) != 0 {
		t.Error("Deals", l)
	}
}

// P26.1, P26.2: of a nil Sim, of one that New did not make, and of nodes that there are not.
func TestNone(t *testing.T) {
	for _, s := range []*sim.Sim{nil, {}} {
		if Books(s) != (api.Audit{}) || Whole(s) || Due(s, 0)+Short(s, 0) != 0 || len(Deals(s)) > 0 {
			t.Error("of no net")
		}
	}
	s := meeting(t, row(2))
	pay(t, s, 0, 1, api.InvoicePlain, 100)
	do(t, s, api.Move{Kind: api.MoveClose, A: 0, N: 1}, api.Move{Kind: api.MoveBlock})
	for _, i := range []int{-1, 2, 8, 1 << 62, -1 << 63} {
		if Due(s, i) != 0 || Short(s, i) != 0 {
			t.Error("of no node", i)
		}
	}
}

// P26.1, P26.2: of a net in which something is on its way, and then on the chain.
func TestBooks(t *testing.T) {
	s := meeting(t, row(3))
	pay(t, s, 0, 2, api.InvoicePlain, 200)
	wantBooks(t, s, api.Audit{Start: 4000, Open: 4000})
	wantDue(t, s, 1000-207, 2000, 1200)
	// What the one in the middle earned is not due to it.
	wantShort(t, s, 0, 0, 0)
	pay(t, s, 0, 2, api.InvoiceHold, 300)
	wantBooks(t, s, api.Audit{Start: 4000, Open: 4000 - 607, Way: 607})
	wantDue(t, s, 793, 2000, 1200)
	// What is on its way is nobody's.
	wantShort(t, s, 307, 300-7, 0)
	do(t, s, api.Move{Kind: api.MoveClose, A: 2, N: 2})
	wantBooks(t, s, api.Audit{Start: 4000, Open: 4000 - 607, Way: 607})
	do(t, s, api.Move{Kind: api.MoveBlock})
	wantBooks(t, s, api.Audit{Start: 4000, Open: 2000 - 307, Way: 307, Chain: 2000 - 3, Fees: 3})
	wantDue(t, s, 790, 1997, 1197)
	do(t, s, api.Move{Kind: api.MoveSettle, A: 2, N: 1})
	wantDue(t, s, 790, 1997, 1497)
	s.Calm(8)
	// Three claims: of each one's own, and of what was on its way.
	wantBooks(t, s, api.Audit{Start: 4000, Open: 2000, Chain: 2000 - 4*3, Fees: 4 * 3})
	wantDue(t, s, 1000-207-307-12, 2000-12, 1500-12)
	wantShort(t, s, 0, 0, 0)
}

// P26.1: the books of a net of which one channel's A tells another view than its B.
func TestViewOfA(t *testing.T) {
	s := meeting(t, row(2))
	do(t, s, api.Move{Kind: api.MoveInvoice, A: 1, N: api.InvoiceHold, Amount: 300, Expiry: 90}, api.Move{Kind: api.MovePay, A: 0})
	carried := 0
	for {
		v, _, _ := s.Node(0).Channel(1)
		way := 0
		if len(v.Htlcs) > 0 {
			way = 300
		}
		wantBooks(t, s, api.Audit{Start: 2000, Open: 2000 - way, Way: way})
		if s.Do(api.Move{Kind: api.MoveCarry, A: 0, B: 1}) != api.OK && s.Do(api.Move{Kind: api.MoveCarry, A: 1, B: 0}) != api.OK {
			break
		}
		carried++
	}
	if carried < 5 || Books(s).Way != 300 {
		t.Error("too little happened", carried)
	}
}

// P26.2: who may not do what it does is short, if it comes to that; less than nothing may be due.
func TestShort(t *testing.T) {
	n := row(3, 0)
	n.Terms[1].StartB = 0
	s := meeting(t, n)
	pay(t, s, 0, 1, api.InvoicePlain, 300)
	do(t, s, api.Move{Kind: api.MoveCheat, A: 0, N: 0})
	s.Calm(6)
	// The commitment, and two claims of it.
	wantBooks(t, s, api.Audit{Start: 3000, Open: 1000, Chain: 2000 - 9, Fees: 9})
	wantDue(t, s, 700-9, 2000+300-9, -9)
	wantShort(t, s, 691, 0, 0)
}

// P26.2: what is not worth to be claimed is not due.
func TestDust(t *testing.T) {
	s := meeting(t, row(2))
	pay(t, s, 0, 1, api.InvoiceHold, 2)
	do(t, s, api.Move{Kind: api.MoveLose, A: 0, B: 1}, api.Move{Kind: api.MoveClose, A: 0, N: 1}, api.Move{Kind: api.MoveSettle, A: 1, N: 0})
	s.Calm(6)
	if s.Dust() != 2 {
		t.Error("Dust", s.Dust())
	}
	wantDue(t, s, 1000-9-2, 1000+2-9-2)
	wantShort(t, s, 0, 0)
}

// wantDeals asks what the deals are.
func wantDeals(t *testing.T, s *sim.Sim, want ...api.Deal) {
	t.Helper()
	l := Deals(s)
	if len(l) != len(want) {
		t.Fatalf("Deals %+v", l)
	}
	for i := range l {
		if l[i] != want[i] {
			t.Errorf("deal %d is %+v, not %+v", i, l[i], want[i])
		}
	}
}

// P26.2: Deals, by payers, and then in the order in which they began.
func TestDeals(t *testing.T) {
	s := meeting(t, row(3))
	pay(t, s, 2, 0, api.InvoicePlain, 100)
	pay(t, s, 0, 2, api.InvoiceHold, 200)
	pay(t, s, 0, 1, api.InvoiceSet, 300)
	do(t, s, api.Move{Kind: api.MoveInvoice, A: 2, N: api.InvoicePlain, Amount: 40, Expiry: 90})
	// It has too little for this one; and this one was paid already.
	do(t, s, api.Move{Kind: api.MoveInvoice, A: 2, N: api.InvoicePlain, Amount: 4000, Expiry: 90})
	s.Do(api.Move{Kind: api.MovePay, A: 0, N: 4, Amount: 50})
	do(t, s, api.Move{Kind: api.MovePay, A: 1, N: 0, Amount: 50}, api.Move{Kind: api.MoveAll})
	done := api.Deal{Payer: 2, Made: 0, State: api.PayDone, Paid: 100, Fees: 7, Knows: true, Payee: 0, Is: api.InvoiceSettled, Got: 100, Agrees: true}
	held := api.Deal{Payer: 0, Made: 1, State: api.PayOpen, Knows: true, Payee: 2, Is: api.InvoiceHeld, Got: 200, Agrees: true}
	set := api.Deal{Payer: 0, Made: 2, State: api.PayDone, Paid: 300, Knows: true, Payee: 1, Is: api.InvoiceSettled, Got: 300, Agrees: true}
	none := api.Deal{Payer: 0, Made: 4, State: api.PayFailed, Knows: true, Payee: 2, Is: api.InvoiceOpen, Agrees: true}
	late := api.Deal{Payer: 1, Made: 0, State: api.PayFailed, Knows: true, Payee: 0, Is: api.InvoiceSettled, Got: 100, Agrees: true}
	wantDeals(t, s, held, set, none, late, done)
	do(t, s, api.Move{Kind: api.MoveCancel, A: 2, N: 1}, api.Move{Kind: api.MoveAll})
	held.State, held.Is, held.Got = api.PayFailed, api.InvoiceCancelled, 0
	wantDeals(t, s, held, set, none, late, done)
	// A payment for an invoice that the net does not know of is no deal.
	out, _ := s.Node(1).On(api.Input{Kind: api.InInvoice, Number: api.InvoiceSet, Amount: 10, Expiry: 90})
	if o, e := s.Node(0).On(api.Input{Kind: api.InPay, Text: out.Text}); e != api.OK || o.Answer != api.OK {
		t.Fatal("InPay", e, o.Answer)
	}
	wantDeals(t, s, held, set, none, late, done)
	// An answer shares nothing with another one.
	Deals(s)[0] = api.Deal{}
	wantDeals(t, s, held, set, none, late, done)
}

// P26.2: a payee that tells its secret, and not that it was paid, does not agree.
func TestDisagreement(t *testing.T) {
	s := meeting(t, row(2, 1))
	pay(t, s, 0, 1, api.InvoiceHold, 300)
	b, e := wire.Encode(api.Msg{Kind: api.MsgFulfil, Channel: 1, Secret: s.Made()[0].Preimage})
	if e != api.OK {
		t.Fatal("Encode", e)
	}
	do(t, s, api.Move{Kind: api.MoveBytes, A: 1, B: 0, Bytes: b}, api.Move{Kind: api.MoveCarry, A: 1, B: 0})
	wantDeals(t, s, api.Deal{State: api.PayDone, Paid: 300, Knows: true, Payee: 1, Is: api.InvoiceHeld, Got: 300})
	for _, secret := range s.Node(0).Tries(s.Made()[0].Secret) {
		if mac.Hash(secret.Secret) != secret.Hash {
			t.Error("what it knows")
		}
	}
}

// P26.2: which deals agree.
func TestAgrees(t *testing.T) {
	done := api.Deal{State: api.PayDone, Is: api.InvoiceSettled, Paid: 5, Got: 5, Knows: true}
	for what, c := range map[string]struct {
		change func(d *api.Deal)
		want   bool
	}{
		"done":              {func(d *api.Deal) {}, true},
		"got more":          {func(d *api.Deal) { d.Got = 6 }, true},
		"got less":          {func(d *api.Deal) { d.Got = 4 }, false},
		"not settled":       {func(d *api.Deal) { d.Is = api.InvoiceHeld }, false},
		"cancelled":         {func(d *api.Deal) { d.Is = api.InvoiceCancelled }, false},
		"the payer cannot":  {func(d *api.Deal) { d.Knows = false }, false},
		"failed, but paid":  {func(d *api.Deal) { d.State = api.PayFailed }, false},
		"failed":            {func(d *api.Deal) { d.State, d.Paid = api.PayFailed, 0 }, true},
		"failed, not known": {func(d *api.Deal) { *d = api.Deal{State: api.PayFailed} }, true},
		"open":              {func(d *api.Deal) { d.State = api.PayOpen }, true},
		"open, nothing":     {func(d *api.Deal) { *d = api.Deal{State: api.PayOpen} }, true},
		"no payment":        {func(d *api.Deal) { d.State = 0 }, false},
	} {
		d := done
		c.change(&d)
		if agrees(d) != c.want {
			t.Errorf("%s: %+v", what, d)
		}
	}
}

// P26.1, P26.3: who cannot be opened tells nothing, and is not asked.
func TestNotOpened(t *testing.T) {
	s := meeting(t, row(3))
	pay(t, s, 0, 2, api.InvoiceHold, 300)
	lock := func(i int) {
		f := s.Files(i)
		if e := f.Append("room", make([]byte, f.Left())); e != api.OK {
			t.Fatal("Append", e)
		}
		f.Sync()
		do(t, s, api.Move{Kind: api.MoveCrash, A: i})
		if s.Node(i) != nil {
			t.Fatal("opened")
		}
	}
	lock(1)
	wantBooks(t, s, api.Audit{Start: 4000, Open: 4000 - 607, Way: 607})
	if Due(s, 1) != 0 || Short(s, 1) != 0 {
		t.Error("who is not there is short")
	}
	lock(2)
	wantBooks(t, s, api.Audit{Start: 4000, Open: 2000 - 307, Way: 307})
	wantDeals(t, s, api.Deal{State: api.PayOpen, Knows: true, Payee: 2, Agrees: true})
	lock(0)
	wantBooks(t, s, api.Audit{Start: 4000})
	wantDeals(t, s)
}
