package node

import (
	"testing"

	"tollhouse/api"
	"tollhouse/wire"
)

// Example 1 of the whole, and of chapter 24: two nodes with a channel.
func TestTwoNodes(t *testing.T) {
	x := newNet(t, 2, between(1, 0, 1, 1000, 0))
	x.allUp()
	x.all()
	for k, kind := range []int{api.InvoicePlain, api.InvoiceSet} {
		m := x.bill(1, kind, 300, 50)
		if e := x.pay(0, m, 0); e != api.OK {
			t.Fatal("InPay", e)
		}
		x.all()
		x.wantPaid(0, m, 0)
		x.wantIdle()
		if p, q := x.nodes[0].Purse(), x.nodes[1].Purse(); p.Open != 700-300*k || q.Open != 300+300*k {
			t.Error("Purse", p, q)
		}
	}
}

// Example 2: three in a row.
func TestThreeInARow(t *testing.T) {
	x := newNet(t, 3, between(1, 0, 1, 1000, 0), between(2, 1, 2, 1000, 0))
	x.allUp()
	x.all()
	m := x.bill(2, api.InvoicePlain, 300, 50)
	if e := x.pay(0, m, 0); e != api.ErrNone {
		t.Error("without a fee", e)
	}
	m = x.bill(2, api.InvoicePlain, 300, 50)
	x.pay(0, m, 1)
	x.all()
	x.wantPaid(0, m, 1)
	x.wantIdle()
	if p := x.nodes[1].Purse(); p.Open != 1001 {
		t.Error("the middle one has", p)
	}
}

// Example 3: two channels of 60 (one more pays for a commitment).
func TestTwoParts(t *testing.T) {
	for _, kind := range []int{api.InvoicePlain, api.InvoiceSet} {
		x := newNet(t, 2, between(1, 0, 1, 61, 0), between(2, 0, 1, 61, 0))
		x.allUp()
		x.all()
		m := x.bill(1, kind, 100, 50)
		x.pay(0, m, 0)
		x.all()
		x.wantPaid(0, m, 0)
		if l := x.nodes[0].Tries(m.invoice.Secret); len(l) != 2 || l[0].Amount != 50 || l[1].Amount != 50 {
			t.Error("tries", l)
		}
		x.wantIdle()
	}
}

// Example 4: a hold invoice.
func TestHeld(t *testing.T) {
	for _, settled := range []bool{true, false} {
		x := newNet(t, 3, between(1, 0, 1, 1000, 0), between(2, 1, 2, 1000, 0))
		x.allUp()
		x.all()
		m := x.bill(2, api.InvoiceHold, 300, 50)
		x.pay(0, m, 1)
		x.calm(3)
		if s, paid, _ := x.nodes[0].Payment(m.invoice.Secret); s != api.PayOpen || paid != 0 {
			t.Fatal("paid ahead", s, paid)
		}
		if settled {
			x.settle(m)
			x.all()
			x.wantPaid(0, m, 1)
		} else {
			x.hand(2, api.Input{Kind: api.InCancel, Secret: m.invoice.Secret})
			x.all()
			x.wantFailed(0, m, api.InvoiceCancelled)
			if p := x.nodes[0].Purse(); p.Open != 1000 {
				t.Error("not all came back", p)
			}
		}
		x.wantIdle()
	}
}

// Example 5: one part of two does not come.
func TestOnePartDoesNotCome(t *testing.T) {
	for _, lost := range [][2]int{{2, 3}, {0, 2}} {
		x := newNet(t, 4, between(1, 0, 1, 62, 0), between(2, 1, 3, 62, 0), between(3, 0, 2, 62, 0), between(4, 2, 3, 62, 0))
		x.allUp()
		x.all()
		x.lose(lost[0], lost[1])
		m := x.bill(3, api.InvoicePlain, 100, 50)
		if e := x.pay(0, m, 9); e != api.OK {
			t.Fatal("InPay", e)
		}
		x.all()
		if s, got := x.nodes[3].Invoice(m.invoice.Secret); s != api.InvoiceOpen || got != 50 {
			t.Fatal("one part", s, got)
		}
		for range x.wait - 1 {
			x.hand(3, api.Input{Kind: api.InTick})
		}
		x.all()
		if s, _, _ := x.nodes[0].Payment(m.invoice.Secret); s != api.PayOpen {
			t.Error("ahead of the wait", s)
		}
		x.hand(3, api.Input{Kind: api.InTick})
		x.all()
		x.wantFailed(0, m, api.InvoiceOpen)
		x.wantIdle()
	}
}

// twoPayments is three in a row, where node 0 pays two invoices at once, one of them held.
func twoPayments(t *testing.T) *net {
	t.Helper()
	x := newNet(t, 3, between(1, 0, 1, 1000, 0), between(2, 1, 2, 1000, 0))
	x.allUp()
	x.all()
	x.pay(0, x.bill(2, api.InvoicePlain, 300, 50), 1)
	x.pay(0, x.bill(2, api.InvoiceSet, 200, 50), 1)
	return x
}

// carryOne carries one message, and tells whether there was one.
func (x *net) carryOne() bool {
	for a := range x.nodes {
		for b := range x.nodes {
			if x.carry(a, b) {
				return true
			}
		}
	}
	return false
}

// Example 6: the middle one crashes, wherever the payment is; so does the first one, and the last.
func TestCrashesOnTheWay(t *testing.T) {
	for who := range 3 {
		ended := false
		for step := 0; !ended; step++ {
			x := twoPayments(t)
			for range step {
				ended = !x.carryOne()
			}
			x.crash(who, 0, 0)
			x.allUp()
			x.all()
			for _, m := range x.made {
				x.wantPaid(0, m, 1)
			}
			x.wantIdle()
		}
	}
}

// Example 7: two lose one another, wherever the payment is.
func TestLosesOnTheWay(t *testing.T) {
	for _, who := range [][2]int{{0, 1}, {1, 2}} {
		ended := false
		for step := 0; !ended; step++ {
			x := twoPayments(t)
			for range step {
				ended = !x.carryOne()
			}
			x.lose(who[0], who[1])
			x.allUp()
			x.all()
			for _, m := range x.made {
				x.wantPaid(0, m, 1)
			}
			x.wantIdle()
		}
	}
}

// Example 8: a node closes its channel.
func TestCloses(t *testing.T) {
	x := newNet(t, 2, between(1, 0, 1, 1000, 500))
	x.allUp()
	x.all()
	m := x.bill(1, api.InvoicePlain, 300, 50)
	x.pay(0, m, 0)
	x.all()
	x.hand(0, api.Input{Kind: api.InClose, Number: 1})
	x.block()
	// The other one has its own at once, the one who closed behind the delay.
	for h := 2; h < 7; h++ {
		x.calm(1)
		want := 0
		if h >= 4 {
			want = 698
		}
		if x.onChain(0) != want || x.onChain(1) != 799 {
			t.Error("at", h, "they have", x.onChain(0), x.onChain(1))
		}
	}
	x.wantPaid(0, m, 0)
	if !x.quiet() {
		t.Error("not quiet")
	}
}

// Example 9: a node publishes an elder commitment.
func TestCheats(t *testing.T) {
	x := newNet(t, 2, between(1, 0, 1, 1000, 500))
	x.allUp()
	x.all()
	x.pay(0, x.bill(1, api.InvoicePlain, 300, 50), 0)
	x.all()
	if e := x.chain.Submit(x.old[0][0]); e != api.OK {
		t.Fatal("Submit", e)
	}
	x.calm(10)
	// 1500, less the fee of the commitment and those of two claims.
	if x.onChain(0) != 0 || x.onChain(1) != 1497 || !x.quiet(0) {
		t.Error("they have", x.onChain(0), x.onChain(1))
	}
}

// Example 10: a packet for another node.
func TestPacketForAnotherNode(t *testing.T) {
	x := newNet(t, 3, between(1, 0, 1, 1000, 0), between(2, 1, 2, 1000, 0))
	x.allUp()
	x.all()
	m := x.bill(1, api.InvoicePlain, 300, 50)
	other := x.bill(2, api.InvoicePlain, 300, 50)
	x.pay(0, m, 1)
	way := [2]int{0, 1}
	add, e := wire.Decode(x.queue[way][0])
	if e != api.OK || add.Kind != api.MsgAdd {
		t.Fatal("not an Add", e)
	}
	// What node 2 should get of another payment, with the nonce of this one.
	n := x.nodes[0]
	tries := n.Tries(m.invoice.Secret)
	tries[0].Way.Edges[0].To = 2
	copy(add.Onion[32:], n.offerOf(tries[0]).packet[32:])
	x.queue[way][0], _ = wire.Encode(add)
	x.all()
	x.wantFailed(0, m, api.InvoiceOpen)
	if l := n.Tries(m.invoice.Secret); len(l) != 1 {
		t.Error("tried again", len(l))
	}
	x.wantIdle()
	x.pay(0, other, 1)
	x.all()
	x.wantPaid(0, other, 1)
}
