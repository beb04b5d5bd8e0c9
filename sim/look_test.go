package sim

import (
	"testing"

	"tollhouse/api"
)

// P25.3: Wealth, Dust, Spent, Fees and Quiet of channels that are closed, one with something on its way.
func TestOnChain(t *testing.T) {
	n := netOf(3, between(1, 0, 1, 1000, 500), between(2, 1, 2, 400, 300))
	n.Terms[0].Fee, n.Terms[1].Fee = 10, 40
	n.Terms[0].Delay, n.Terms[1].Delay = 2, 1
	x := meeting(t, n)
	for _, sum := range []int{8, 40, 41} {
		x.pay(0, x.bill(1, api.InvoiceHold, sum))
	}
	x.all()
	x.wantWealth([2]int{1000 - 89, 0}, [2]int{900, 0}, [2]int{300, 0})
	x.wantQuiet(false)
	x.do(api.Move{Kind: api.MoveClose, A: 0, N: 1})
	if x.Spent(1) || x.Dust() != 0 {
		t.Error("nothing is confirmed yet")
	}
	x.block()
	// Node 1 has its own alone on the chain at once, node 0 behind the delay. What is not above the greatest Fee of all is dust.
	if !x.Spent(1) || x.Spent(2) || x.Fees() != 10 || x.Dust() != 48 {
		t.Error("closed", x.Spent(1), x.Spent(2), x.Fees(), x.Dust())
	}
	x.wantWealth([2]int{0, 0}, [2]int{400, 500}, [2]int{300, 0})
	x.wantQuiet(false)
	x.block()
	x.wantWealth([2]int{0, 0}, [2]int{400, 490}, [2]int{300, 0})
	x.block()
	x.wantWealth([2]int{0, 1000 - 89 - 10 - 10}, [2]int{400, 490}, [2]int{300, 0})
	x.wantQuiet(false)
	// Nobody claims 8; 40 and 41 are node 0's again, behind their expiry.
	x.Calm(api.LastDelta)
	if x.Dust() != 8 || x.Fees() != 10+4*10 {
		t.Error("in the end", x.Dust(), x.Fees())
	}
	x.wantWealth([2]int{0, 891 + 30 + 31}, [2]int{400, 490}, [2]int{300, 0})
	x.wantQuiet(true)
	for place := range 3 {
		x.wantFailed(0, place, api.InvoiceCancelled)
	}
}

// P25.3: an output that nobody claimed yet is not quiet, even if all nodes are idle; those that are one node's are.
func TestQuietOutputs(t *testing.T) {
	x := meeting(t, row(2))
	x.do(api.Move{Kind: api.MoveClose, A: 1, N: 1})
	x.wantQuiet(true)
	x.block()
	if !x.Node(0).Idle() || !x.Node(1).Idle() {
		t.Fatal("not idle")
	}
	x.wantQuiet(false)
	x.block()
	x.wantQuiet(false)
	x.block()
	x.wantQuiet(true)
	x.wantWealth([2]int{0, 1000 - 3 - 3}, [2]int{0, 1000 - 3})
}

// P25.3: what is on its way is not quiet, nor is a dead node; but a Bad one may do what it likes.
func TestQuietNodes(t *testing.T) {
	for _, bad := range []bool{false, true} {
		n := row(2)
		n.Bad[1] = bad
		x := begin(t, n)
		x.wantQuiet(true)
		x.up(0, 1)
		x.wantQuiet(false)
		x.all()
		x.wantQuiet(true)
		x.kill(1, 0)
		x.wantQuiet(bad)
		x.Calm(1)
		x.wantQuiet(true)
		// A payment that cannot go on: both are not idle.
		x.bill(0, api.InvoicePlain, 100)
		x.pay(1, 0)
		x.wantQuiet(false)
		x.do(api.Move{Kind: api.MoveLose, A: 0, B: 1})
		x.wantQuiet(bad)
		x.Calm(1)
		x.wantPaid(1, 0, 0)
		x.wantQuiet(true)
	}
}

// P25.1, P25.3: a node that cannot be opened any more is nobody, and the others go on.
func TestNotOpened(t *testing.T) {
	x := meeting(t, row(3))
	x.bill(2, api.InvoicePlain, 100)
	f := x.Files(1)
	if e := f.Append("room", make([]byte, f.Left())); e != api.OK {
		t.Fatal("Append", e)
	}
	x.want(api.Move{Kind: api.MoveTick, A: 1}, api.ErrFull)
	if !x.There(0, 1) || x.Node(1).Dead() {
		t.Error("dead of a full disk")
	}
	f.Sync()
	x.do(api.Move{Kind: api.MoveCrash, A: 1})
	if x.Node(1) != nil || x.There(0, 1) {
		t.Error("opened")
	}
	x.want(api.Move{Kind: api.MoveTick, A: 1}, api.ErrDead)
	x.want(api.Move{Kind: api.MoveUp, A: 0, B: 1}, api.ErrMove)
	x.want(api.Move{Kind: api.MoveLose, A: 2, B: 1}, api.ErrMove)
	x.want(api.Move{Kind: api.MoveCarry, A: 2, B: 1}, api.ErrNone)
	x.Calm(1)
	x.block()
	if x.Height() != 2 || x.Node(0).Height() != 2 {
		t.Error("the others", x.Height())
	}
	x.wantWealth([2]int{1000, 0}, [2]int{0, 0}, [2]int{1000, 0})
	x.wantQuiet(false)
	// With room, it is back, with all blocks.
	f.Remove("room")
	f.Sync()
	x.Calm(1)
	if x.Node(1).Height() != 3 || !x.There(0, 1) {
		t.Error("not back")
	}
	x.pay(0, 0)
	x.all()
	x.wantPaid(0, 0, 7)
	x.wantQuiet(true)
}
