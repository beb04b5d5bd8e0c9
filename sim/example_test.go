package sim

import (
	"testing"

	"tollhouse/api"
	"tollhouse/chain"
	"tollhouse/deal"
	"tollhouse/mac"
	"tollhouse/node"
	"tollhouse/onion"
	"tollhouse/secrets"
	"tollhouse/wire"
)

// Example 1 of the whole: two nodes with a channel, an invoice of 300.
func TestTwoNodes(t *testing.T) {
	x := meeting(t, row(2))
	x.pay(0, x.bill(1, api.InvoicePlain, 300))
	x.all()
	x.wantPaid(0, 0, 0)
	x.wantWealth([2]int{700, 0}, [2]int{1300, 0})
	x.wantQuiet(true)
}

// Example 2, and example 1 of chapter 25: three in a row, the one in the middle has its fee.
func TestThreeInARow(t *testing.T) {
	x := meeting(t, row(3))
	x.pay(0, x.bill(2, api.InvoicePlain, 300))
	x.all()
	x.wantPaid(0, 0, 7)
	x.wantWealth([2]int{693, 0}, [2]int{2007, 0}, [2]int{1300, 0})
	x.wantQuiet(true)
}

// Example 3: two channels of 60 (and what pays for their commitments): 100 in two parts.
func TestTwoParts(t *testing.T) {
	for _, kind := range []int{api.InvoicePlain, api.InvoiceSet} {
		x := meeting(t, netOf(2, between(1, 0, 1, 63, 0), between(2, 0, 1, 63, 0)))
		x.pay(0, x.bill(1, kind, 100))
		x.all()
		x.wantPaid(0, 0, 0)
		l := x.Node(0).Tries(x.Made()[0].Secret)
		if len(l) != 2 || l[0].Amount != 50 || l[1].Amount != 50 || l[0].Way.Edges[0].Channel == l[1].Way.Edges[0].Channel {
			t.Errorf("tries %+v", l)
		}
		x.wantWealth([2]int{26, 0}, [2]int{100, 0})
	}
}

// Example 4: a hold invoice.
func TestHold(t *testing.T) {
	for _, settled := range []bool{true, false} {
		x := meeting(t, row(3))
		x.pay(0, x.bill(2, api.InvoiceHold, 300))
		x.all()
		x.Calm(2)
		x.wantWealth([2]int{693, 0}, [2]int{1700, 0}, [2]int{1000, 0})
		if settled {
			x.do(api.Move{Kind: api.MoveSettle, A: 2})
			x.all()
			x.wantPaid(0, 0, 7)
			x.wantWealth([2]int{693, 0}, [2]int{2007, 0}, [2]int{1300, 0})
		} else {
			x.do(api.Move{Kind: api.MoveCancel, A: 2})
			x.all()
			x.wantFailed(0, 0, api.InvoiceCancelled)
			x.wantWealth([2]int{1000, 0}, [2]int{2000, 0}, [2]int{1000, 0})
		}
		x.wantQuiet(true)
	}
}

// Example 5: one part of two does not come.
func TestOnePart(t *testing.T) {
	x := meeting(t, netOf(4, between(1, 0, 1, 63, 0), between(2, 1, 3, 63, 0), between(3, 0, 2, 63, 0), between(4, 2, 3, 63, 0)))
	x.do(api.Move{Kind: api.MoveLose, A: 2, B: 3})
	x.pay(0, x.bill(3, api.InvoicePlain, 90))
	x.all()
	if s, got := x.Node(3).Invoice(x.Made()[0].Secret); s != api.InvoiceOpen || got != 45 {
		t.Fatal("one part", s, got)
	}
	for range x.net.Wait {
		if s, _, _ := x.Node(0).Payment(x.Made()[0].Secret); s != api.PayOpen {
			t.Fatal("ahead of the wait", s)
		}
		x.do(api.Move{Kind: api.MoveTick, A: 3})
		x.all()
	}
	x.wantFailed(0, 0, api.InvoiceOpen)
	x.wantWealth([2]int{126, 0}, [2]int{63, 0}, [2]int{63, 0}, [2]int{0, 0})
	x.wantQuiet(true)
}

// step carries one message, and tells whether there was one.
func (x *world) step() bool {
	for a := range x.net.Nodes {
		for b := range x.net.Nodes {
			if x.Do(api.Move{Kind: api.MoveCarry, A: a, B: b}) == api.OK {
				return true
			}
		}
	}
	return false
}

// onTheWay is, for each number of messages that are carried, a net of three in a row with two payments on their way.
func onTheWay(t *testing.T, do func(x *world)) {
	t.Helper()
	ended := false
	for steps := 0; !ended; steps++ {
		x := meeting(t, row(3))
		x.pay(0, x.bill(2, api.InvoicePlain, 300))
		x.pay(2, x.bill(0, api.InvoiceSet, 200))
		for range steps {
			ended = !x.step()
		}
		do(x)
		x.allUp()
		x.all()
		x.wantPaid(0, 0, 7)
		x.wantPaid(2, 1, 7)
		x.wantWealth([2]int{893, 0}, [2]int{2014, 0}, [2]int{1093, 0})
		x.wantQuiet(true)
	}
}

// Example 6, P4: one crashes while payments are on their way, wherever these are: they go on.
func TestCrashOnTheWay(t *testing.T) {
	for i := range 3 {
		onTheWay(t, func(x *world) { x.do(api.Move{Kind: api.MoveCrash, A: i}) })
	}
}

// Example 6, P4: the power is cut off behind any act, and any part of what is unsure lasts.
func TestPowerOnTheWay(t *testing.T) {
	for acts := range 4 {
		for unsure := range 2 {
			onTheWay(t, func(x *world) {
				x.do(api.Move{Kind: api.MoveStop, A: 1, N: acts})
				for !x.Node(1).Dead() && x.step() {
				}
				x.Do(api.Move{Kind: api.MoveTick, A: 1})
				x.Do(api.Move{Kind: api.MoveTick, A: 1})
				m := api.Move{Kind: api.MoveCrash, A: 1, N: unsure, Amount: 11 * acts}
				if x.Files(1).Unsure() < unsure {
					m.N = 0
				}
				x.do(m)
			})
		}
	}
}

// Example 7: two lose one another, wherever the payments are: what was not signed is tried anew.
func TestLoseOnTheWay(t *testing.T) {
	for i := range 2 {
		onTheWay(t, func(x *world) { x.do(api.Move{Kind: api.MoveLose, A: i, B: i + 1}) })
	}
}

// Example 8: a node closes its channel: both have what is theirs, behind the delay.
func TestClose(t *testing.T) {
	for i := range 2 {
		x := meeting(t, row(2))
		x.pay(0, x.bill(1, api.InvoicePlain, 300))
		x.all()
		x.do(api.Move{Kind: api.MoveClose, A: i, N: 1})
		x.Calm(4)
		// Node 0 pays for the commitment, and each of them for its claim.
		x.wantWealth([2]int{0, 700 - 3 - 3}, [2]int{0, 1300 - 3})
		x.wantQuiet(true)
	}
}

// Example 9, P2: a node publishes an elder commitment: the other one takes all.
func TestCheatPunished(t *testing.T) {
	x := meeting(t, row(2, 0))
	x.pay(0, x.bill(1, api.InvoicePlain, 300))
	x.all()
	x.do(api.Move{Kind: api.MoveCheat, A: 0, N: 0})
	x.Calm(5)
	x.wantWealth([2]int{0, 0}, [2]int{0, 2000 - 3*3})
	x.wantQuiet(true)
}

// Example 10, P2: a packet for another node: ErrTag, and it is failed.
func TestPacketForAnother(t *testing.T) {
	x := meeting(t, row(3, 0))
	x.bill(1, api.InvoicePlain, 300)
	m := x.Made()[0]
	h := api.Htlc{By: 0, Amount: 300, Hash: mac.Hash(m.Preimage), Expiry: 12}
	packet, e := onion.Build([][32]byte{node.Onion(x.net.Seed, 2)}, []api.Hop{{Amount: 300, Expiry: 12, Secret: m.Secret, Total: 300}}, [32]byte{5}, h.Hash)
	if e != api.OK {
		t.Fatal("Build", e)
	}
	if _, _, e := onion.Peel(node.Onion(x.net.Seed, 1), packet, h.Hash); e != api.ErrTag {
		t.Error("Peel", e)
	}
	x.offer(h, packet)
	// It was taken back, it was signed, it was failed, and that was signed.
	if x.OnWay(1, 0) != 4 || x.Node(1).Idle() {
		t.Error("node 1 says", x.OnWay(1, 0))
	}
	if p := x.Node(1).Purse(); p != (api.Purse{Open: 2000, In: 300}) {
		t.Errorf("node 1 has %+v", p)
	}
	if s, got := x.Node(1).Invoice(m.Secret); s != api.InvoiceOpen || got != 0 {
		t.Error("the invoice", s, got)
	}
	// Node 0 does not know what it said itself: it closes the channel, by what it took back.
	x.Calm(6)
	x.wantWealth([2]int{0, 0}, [2]int{1000, 2000 - 3*3}, [2]int{1000, 0})
	x.wantQuiet(true)
}

// offer lets node 0, which does what it likes, say to node 1 what its channel would say that offers h as the first one.
func (x *world) offer(h api.Htlc, packet []byte) {
	x.t.Helper()
	terms, seed := x.Terms()[0], x.net.Seed
	view := api.View{A: terms.StartA - h.Amount, B: terms.StartB, Htlcs: []api.Htlc{h}}
	tx, e := deal.Commit(terms, 1, secrets.Point(node.Secrets(seed, 1, 1), 1), view)
	if e != api.OK {
		x.t.Fatal("Commit", e)
	}
	id, own := chain.Id(tx), node.Secrets(seed, 0, 1)
	for _, m := range []api.Msg{
		{Kind: api.MsgAdd, Channel: 1, Amount: h.Amount, Expiry: h.Expiry, Hash: h.Hash, Onion: packet},
		{Kind: api.MsgSign, Channel: 1, Number: 1, Tag: mac.Tag(node.Key(seed, 0), "tx", id[:])},
		{Kind: api.MsgRevoke, Channel: 1, Number: 0, Secret: secrets.At(own, 0), Point: secrets.Point(own, 2)},
	} {
		b, e := wire.Encode(m)
		if e != api.OK {
			x.t.Fatal("Encode", e)
		}
		x.do(api.Move{Kind: api.MoveBytes, A: 0, B: 1, Bytes: b}, api.Move{Kind: api.MoveCarry, A: 0, B: 1})
	}
}
