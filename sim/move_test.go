package sim

import (
	"fmt"
	"math"
	"reflect"
	"slices"
	"testing"

	"tollhouse/api"
	"tollhouse/invoice"
	"tollhouse/mac"
	"tollhouse/wire"
)

// P25.1: ErrArg, ahead of all else, of nodes that there are not; ErrMove of kinds that there are not.
func TestArguments(t *testing.T) {
	x := meeting(t, row(3))
	ahead := faceOf(x.Sim)
	two := []int{api.MoveUp, api.MoveLose, api.MoveCarry, api.MoveBytes}
	for kind := api.MoveUp; kind <= api.MoveAll; kind++ {
		if kind == api.MoveBlock || kind == api.MoveAll {
			continue
		}
		for _, i := range []int{-1, 3, math.MinInt, math.MaxInt} {
			x.want(api.Move{Kind: kind, A: i, B: 1, N: -1}, api.ErrArg)
			if slices.Contains(two, kind) {
				x.want(api.Move{Kind: kind, A: 1, B: i, N: -1}, api.ErrArg)
			}
		}
		if slices.Contains(two, kind) {
			x.want(api.Move{Kind: kind, A: 2, B: 2}, api.ErrArg)
		}
	}
	for _, kind := range []int{math.MinInt, -1, 0, api.MoveAll + 1, math.MaxInt} {
		x.want(api.Move{Kind: kind, A: -1, B: -1}, api.ErrMove)
		x.want(api.Move{Kind: kind, A: 0, B: 1}, api.ErrMove)
	}
	if !reflect.DeepEqual(faceOf(x.Sim), ahead) {
		t.Error("something changed")
	}
	// The others' A and B say nothing.
	x.do(api.Move{Kind: api.MoveBlock, A: -1, B: -1}, api.Move{Kind: api.MoveAll, A: -1, B: -1}, api.Move{Kind: api.MoveTick, A: 1, B: -1})
}

// P25.1: MoveUp.
func TestUp(t *testing.T) {
	x := begin(t, row(3))
	x.want(api.Move{Kind: api.MoveUp, A: 0, B: 2}, api.ErrMove)
	ahead := x.inputs()
	x.up(1, 0)
	x.wantInputs(ahead, 1, 1, 0)
	if !x.There(0, 1) || !x.There(1, 0) || x.There(1, 2) || x.OnWay(0, 1) != 1 || x.OnWay(1, 0) != 1 || x.OnWay(1, 2)+x.OnWay(2, 1) != 0 {
		t.Error("one pair is there, and both greet", x.OnWay(0, 1), x.OnWay(1, 0))
	}
	x.want(api.Move{Kind: api.MoveUp, A: 0, B: 1}, api.ErrMove)
	x.want(api.Move{Kind: api.MoveUp, A: 1, B: 0}, api.ErrMove)
	x.kill(2, 0)
	x.want(api.Move{Kind: api.MoveUp, A: 1, B: 2}, api.ErrMove)
	x.want(api.Move{Kind: api.MoveUp, A: 2, B: 1}, api.ErrMove)
	x.wantInputs(ahead, 1, 1, 0)
	// They may be there for one another though their channel is closed.
	y := meeting(t, row(2))
	y.do(api.Move{Kind: api.MoveClose, A: 0, N: 1}, api.Move{Kind: api.MoveBlock}, api.Move{Kind: api.MoveLose, A: 0, B: 1}, api.Move{Kind: api.MoveUp, A: 0, B: 1})
}

// P25.1: who is dead by the very MoveUp is there for nobody; the other one is told that it is up, and then, when that one begins anew, that it is not.
func TestUpAndDead(t *testing.T) {
	x := begin(t, row(2))
	x.do(api.Move{Kind: api.MoveStop, A: 0, N: 0})
	ahead := x.inputs()
	x.up(0, 1)
	x.wantInputs(ahead, 0, 1)
	if x.There(0, 1) || x.There(1, 0) || x.OnWay(0, 1)+x.OnWay(1, 0) != 0 || !x.Node(0).Dead() {
		t.Error("a dead one is there")
	}
	x.want(api.Move{Kind: api.MoveLose, A: 0, B: 1}, api.ErrMove)
	x.do(api.Move{Kind: api.MoveCrash, A: 0})
	x.up(0, 1)
	x.all()
	x.pay(0, x.bill(1, api.InvoicePlain, 100))
	x.all()
	x.wantPaid(0, 0, 0)
}

// P25.1: MoveLose.
func TestLose(t *testing.T) {
	x := begin(t, row(3))
	x.want(api.Move{Kind: api.MoveLose, A: 0, B: 1}, api.ErrMove)
	x.want(api.Move{Kind: api.MoveLose, A: 0, B: 2}, api.ErrMove)
	x.allUp()
	x.all()
	x.pay(0, x.bill(2, api.InvoicePlain, 100))
	x.bill(1, api.InvoicePlain, 100)
	x.pay(2, 1)
	ahead := x.inputs()
	x.do(api.Move{Kind: api.MoveLose, A: 1, B: 0})
	x.wantInputs(ahead, 1, 1, 0)
	if x.There(0, 1) || x.There(1, 0) || x.OnWay(0, 1)+x.OnWay(1, 0) != 0 || !x.There(1, 2) || x.OnWay(2, 1) == 0 {
		t.Error("one pair is parted, and the other one is not")
	}
	x.want(api.Move{Kind: api.MoveLose, A: 1, B: 0}, api.ErrMove)
	x.want(api.Move{Kind: api.MoveCarry, A: 0, B: 1}, api.ErrNone)
	// What one says to who is not there is gone.
	x.bill(0, api.InvoicePlain, 10)
	x.Do(api.Move{Kind: api.MovePay, A: 1, N: 2})
	if x.OnWay(1, 0) != 0 {
		t.Error("on its way to who is not there")
	}
	x.up(0, 1)
	x.all()
	x.wantPaid(0, 0, 7)
	x.wantPaid(2, 1, 0)
}

// P25.1: MoveCarry carries one message, the first one.
func TestCarry(t *testing.T) {
	x := begin(t, row(3, 0))
	x.want(api.Move{Kind: api.MoveCarry, A: 0, B: 1}, api.ErrNone)
	x.want(api.Move{Kind: api.MoveCarry, A: 0, B: 2}, api.ErrNone)
	x.allUp()
	ahead := x.inputs()
	x.do(api.Move{Kind: api.MoveCarry, A: 0, B: 1})
	x.wantInputs(ahead, 0, 1, 0)
	if x.OnWay(0, 1) != 0 || x.OnWay(1, 0) != 1 {
		t.Error("on their way", x.OnWay(0, 1), x.OnWay(1, 0))
	}
	x.want(api.Move{Kind: api.MoveCarry, A: 0, B: 1}, api.ErrNone)
	x.all()
	x.pay(0, x.bill(1, api.InvoicePlain, 100))
	if n := x.OnWay(0, 1); n != 2 {
		t.Fatal("an Add, and what signs it", n)
	}
	// In another order they would not be taken.
	x.do(api.Move{Kind: api.MoveCarry, A: 0, B: 1}, api.Move{Kind: api.MoveCarry, A: 0, B: 1})
	x.all()
	x.wantPaid(0, 0, 0)
	// That the node can make nothing of it is no fault of the carrier.
	x.do(api.Move{Kind: api.MoveBytes, A: 0, B: 1, Bytes: []byte{1}}, api.Move{Kind: api.MoveCarry, A: 0, B: 1})
}

// P25.1: MoveTick, and what is handed to who is dead.
func TestTick(t *testing.T) {
	x := meeting(t, row(3))
	x.bill(2, api.InvoiceHold, 100)
	ahead := x.inputs()
	x.do(api.Move{Kind: api.MoveTick, A: 1}, api.Move{Kind: api.MoveTick, A: 1}, api.Move{Kind: api.MoveTick, A: 2})
	x.wantInputs(ahead, 0, 2, 1)
	x.do(api.Move{Kind: api.MoveStop, A: 2, N: 3})
	x.do(api.Move{Kind: api.MoveTick, A: 2})
	for _, m := range []api.Move{
		{Kind: api.MoveTick, A: 2}, // by this one it is dead
		{Kind: api.MoveTick, A: 2},
		{Kind: api.MoveInvoice, A: 2, N: api.InvoicePlain, Amount: 1},
		{Kind: api.MovePay, A: 2},
		{Kind: api.MoveSettle, A: 2},
		{Kind: api.MoveCancel, A: 2},
		{Kind: api.MoveClose, A: 2, N: 2},
	} {
		x.want(m, api.ErrDead)
	}
	if !x.Node(2).Dead() || len(x.Made()) != 1 || x.There(1, 2) {
		t.Error("not dead")
	}
	for _, kind := range []int{api.MovePay, api.MoveSettle, api.MoveCancel} {
		x.want(api.Move{Kind: kind, A: 2, N: 1}, api.ErrNone)
	}
	x.want(api.Move{Kind: api.MoveUp, A: 1, B: 2}, api.ErrMove)
	x.want(api.Move{Kind: api.MoveLose, A: 1, B: 2}, api.ErrMove)
	x.want(api.Move{Kind: api.MoveCarry, A: 1, B: 2}, api.ErrNone)
	x.do(api.Move{Kind: api.MoveStop, A: 2, N: -1}, api.Move{Kind: api.MoveAll}, api.Move{Kind: api.MoveBlock})
	if !x.Node(2).Dead() || x.Node(2).Height() != 0 || x.Node(1).Height() != 1 {
		t.Error("a dead one got a block")
	}
}

// P25.1: who dies is there for nobody, and what is on its way to it and from it is gone; what is between others is not.
func TestDeath(t *testing.T) {
	x := meeting(t, row(4))
	x.bill(3, api.InvoicePlain, 100)
	x.bill(0, api.InvoicePlain, 100)
	x.bill(2, api.InvoicePlain, 100)
	x.pay(0, 0)
	x.pay(2, 1)
	x.pay(3, 2)
	if x.OnWay(0, 1) == 0 || x.OnWay(2, 1) == 0 || x.OnWay(3, 2) == 0 {
		t.Fatal("nothing is on its way")
	}
	ahead := x.inputs()
	x.kill(1, 0)
	x.wantInputs(ahead, 0, 0, 0, 0)
	for _, w := range [][2]int{{0, 1}, {1, 0}, {1, 2}, {2, 1}} {
		if x.There(w[0], w[1]) || x.OnWay(w[0], w[1]) > 0 {
			t.Error("there for a dead one", w)
		}
	}
	if !x.There(2, 3) || x.OnWay(3, 2) == 0 {
		t.Error("others are parted")
	}
	x.wantQuiet(false)
	x.Calm(1)
	x.wantPaid(0, 0, 14)
	x.wantPaid(2, 1, 7)
	x.wantPaid(3, 2, 0)
	x.wantQuiet(true)
}

// P25.1: also if it dies by what a test hands it itself.
func TestDeathUnseen(t *testing.T) {
	x := meeting(t, row(2))
	x.pay(0, x.bill(1, api.InvoicePlain, 100))
	x.Files(1).Stop(0)
	if _, e := x.Node(1).On(api.Input{Kind: api.InTick}); e != api.ErrDead {
		t.Fatal("On", e)
	}
	if x.There(0, 1) || x.OnWay(0, 1) != 0 {
		t.Error("there for a dead one")
	}
	x.want(api.Move{Kind: api.MoveCarry, A: 0, B: 1}, api.ErrNone)
	x.Calm(1)
	x.wantPaid(0, 0, 0)
}

// P25.1: MoveBlock: each transaction by itself, and then none; those of Hold wait.
func TestBlock(t *testing.T) {
	x := meeting(t, row(3))
	x.do(api.Move{Kind: api.MoveClose, A: 0, N: 1}, api.Move{Kind: api.MoveClose, A: 2, N: 2})
	ahead := x.inputs()
	x.do(api.Move{Kind: api.MoveBlock, Hold: []int{0, 1, 1, 7, -1}})
	x.wantInputs(ahead, 1, 1, 1)
	if x.Height() != 1 || x.Spent(1) || x.Spent(2) {
		t.Error("not held")
	}
	x.do(api.Move{Kind: api.MoveBlock, Hold: []int{0}})
	x.wantInputs(ahead, 3, 3, 3)
	if x.Spent(1) || !x.Spent(2) {
		t.Error("the other one is held")
	}
	x.block()
	if !x.Spent(1) || x.Height() != 3 {
		t.Error("not spent")
	}
	for i := range 3 {
		if x.Node(i).Height() != 3 {
			t.Error("Height", i)
		}
	}
	y := meeting(t, row(3))
	y.do(api.Move{Kind: api.MoveClose, A: 0, N: 1}, api.Move{Kind: api.MoveClose, A: 2, N: 2})
	ahead = y.inputs()
	y.block()
	y.wantInputs(ahead, 3, 3, 3)
}

// P25.1: who is dead gets the blocks that it missed when it begins anew, and no others.
func TestMissed(t *testing.T) {
	x := meeting(t, row(3))
	x.block()
	x.kill(1, 0)
	x.do(api.Move{Kind: api.MoveClose, A: 2, N: 2})
	x.block()
	x.block()
	ahead := x.inputs()
	x.do(api.Move{Kind: api.MoveCrash, A: 1})
	// InStart, a block with a transaction, one without (and InDown at the others).
	x.wantInputs(ahead, 1, 4, 1)
	if _, _, open := x.Node(1).Channel(2); open || x.Node(1).Height() != 3 {
		t.Error("it does not know that its channel was closed")
	}
	ahead = x.inputs()
	x.do(api.Move{Kind: api.MoveCrash, A: 1})
	x.wantInputs(ahead, 1, 1, 1)
}

// P25.1: who dies within a block gets it again, whole; behind it, it does not.
func TestDeathWithinBlock(t *testing.T) {
	// Each input takes two acts; a block with one transaction is two inputs.
	for acts, again := range []int{2, 2, 2, 2, 0} {
		x := meeting(t, row(3))
		x.do(api.Move{Kind: api.MoveClose, A: 2, N: 2}, api.Move{Kind: api.MoveStop, A: 1, N: acts})
		ahead := x.inputs()
		x.block()
		x.wantInputs(ahead, 2, acts/2, 2)
		x.Do(api.Move{Kind: api.MoveTick, A: 1})
		x.do(api.Move{Kind: api.MoveCrash, A: 1})
		x.wantInputs(ahead, 3, acts/2+1+again, 3)
		if _, _, open := x.Node(1).Channel(2); open || x.Node(1).Height() != 1 {
			t.Error("it does not know of the block", acts)
		}
	}
}

// P25.1: MoveCrash that the disk refuses changes nothing.
func TestCrashRefused(t *testing.T) {
	x := meeting(t, row(3))
	x.pay(0, x.bill(1, api.InvoicePlain, 100))
	for _, acts := range []int{-1, 1} {
		// One act lasts that is not sure: the disk is off behind it.
		x.do(api.Move{Kind: api.MoveStop, A: 2, N: acts})
		x.Do(api.Move{Kind: api.MoveTick, A: 2})
		unsure := x.Files(2).Unsure()
		ahead := faceOf(x.Sim)
		for _, m := range []api.Move{{N: -1}, {N: unsure + 1}, {N: math.MaxInt}, {Amount: -1}, {N: unsure, Amount: math.MinInt}} {
			m.Kind, m.A = api.MoveCrash, 2
			x.want(m, api.ErrArg)
		}
		if !reflect.DeepEqual(faceOf(x.Sim), ahead) || x.Files(2).Unsure() != unsure || x.Files(2).Off() != (acts == 1) {
			t.Error("something changed")
		}
	}
}

// P25.1: MoveCrash: it parts from all, is opened anew, and has what lasted.
func TestCrash(t *testing.T) {
	x := meeting(t, row(3))
	x.pay(0, x.bill(1, api.InvoicePlain, 100))
	x.do(api.Move{Kind: api.MoveStop, A: 1, N: 50})
	old := x.Node(1)
	ahead := x.inputs()
	x.do(api.Move{Kind: api.MoveCrash, A: 1, Amount: 5})
	x.wantInputs(ahead, 1, 1, 1)
	if x.Node(1) == old || x.Node(1).Dead() || x.There(0, 1) || x.There(2, 1) || x.OnWay(0, 1) > 0 {
		t.Error("not parted")
	}
	// The Stop is gone too.
	for range 60 {
		x.do(api.Move{Kind: api.MoveTick, A: 1})
	}
	x.allUp()
	x.all()
	x.wantPaid(0, 0, 0)
	for acts := range 2 {
		x.kill(2, 1)
		ahead := x.inputs()
		x.do(api.Move{Kind: api.MoveCrash, A: 2, N: acts})
		x.wantInputs(ahead, 1, 1, 1+acts)
	}
}

// P25.1: the others are told that who was dead is not there, and so find each other again; no channel is broken.
func TestCrashOfDead(t *testing.T) {
	for acts := range 30 {
		x := meeting(t, row(3))
		x.bill(2, api.InvoicePlain, 100)
		x.do(api.Move{Kind: api.MoveStop, A: 1, N: acts})
		x.pay(0, 0)
		x.all()
		for x.Do(api.Move{Kind: api.MoveTick, A: 1}) == api.OK {
		}
		x.do(api.Move{Kind: api.MoveCrash, A: 1, N: acts % 2 * x.Files(1).Unsure()})
		x.allUp()
		x.all()
		x.wantPaid(0, 0, 7)
		for i, number := range []int{1, 1, 2} {
			if _, _, open := x.Node(i).Channel(number); !open {
				t.Error("closed", number)
			}
		}
		x.wantQuiet(true)
	}
}

// P25.1: MoveInvoice, and Made.
func TestInvoice(t *testing.T) {
	x := begin(t, row(3))
	var want []api.Made
	for n, kind := range []int{api.InvoicePlain, api.InvoiceHold, api.InvoiceSet} {
		for _, m := range []api.Move{{N: kind}, {N: 0, Amount: 5}, {N: 4, Amount: 5}, {N: kind, Amount: 5, Expiry: -1}, {N: kind, Amount: api.MaxInvoice + 1}, {N: kind, Amount: 5, Text: string(make([]byte, 65))}} {
			m.Kind, m.A = api.MoveInvoice, 1
			x.want(m, api.ErrArg)
		}
		x.do(api.Move{Kind: api.MoveInvoice, A: 2 - n, N: kind, Amount: 100 + n, Expiry: 30 + n, Text: fmt.Sprint("tea ", n)})
		l := x.Node(2 - n).Invoices()
		preimage := mac.Derive(x.net.Seed, "preimage", uint64(n))
		i := api.Invoice{Node: 2 - n, Kind: kind, Secret: l[0].Secret, Amount: 100 + n, Expiry: 30 + n, Text: fmt.Sprint("tea ", n)}
		if kind != api.InvoiceSet {
			i.Hash = mac.Hash(preimage)
		}
		text, e := invoice.Encode(i)
		if len(l) != 1 || l[0] != i || e != api.OK {
			t.Errorf("the invoice %+v", l)
		}
		want = append(want, api.Made{Node: 2 - n, Text: text, Secret: i.Secret, Preimage: preimage, Amount: 100 + n, Kind: kind})
	}
	if !slices.Equal(x.Made(), want) {
		t.Errorf("Made %+v", x.Made())
	}
	for len(x.Node(0).Invoices()) < api.MaxInvoices {
		x.do(api.Move{Kind: api.MoveInvoice, A: 0, N: api.InvoiceSet, Amount: 1})
	}
	x.want(api.Move{Kind: api.MoveInvoice, A: 0, N: api.InvoiceSet, Amount: 1}, api.ErrFull)
	if len(x.Made()) != 2+api.MaxInvoices {
		t.Error("Made", len(x.Made()))
	}
}

// P25.1: MovePay, MoveSettle, MoveCancel, MoveClose: what is refused.
func TestRefused(t *testing.T) {
	x := meeting(t, row(3))
	for _, kind := range []int{api.MovePay, api.MoveSettle, api.MoveCancel} {
		x.want(api.Move{Kind: kind, A: 0}, api.ErrNone)
	}
	x.bill(2, api.InvoicePlain, 100)
	x.bill(2, api.InvoiceHold, 200)
	x.bill(2, api.InvoiceHold, 300)
	for _, n := range []int{-1, 3, math.MinInt, math.MaxInt} {
		for _, kind := range []int{api.MovePay, api.MoveSettle, api.MoveCancel} {
			x.want(api.Move{Kind: kind, A: 0, N: n}, api.ErrNone)
		}
	}
	x.want(api.Move{Kind: api.MovePay, A: 2, N: 0, Amount: 9}, api.ErrArg)
	x.want(api.Move{Kind: api.MovePay, A: 0, N: 0, Amount: -1}, api.ErrArg)
	x.want(api.Move{Kind: api.MovePay, A: 0, N: 0, Amount: 6}, api.ErrNone)
	x.want(api.Move{Kind: api.MovePay, A: 0, N: 0, Amount: 7}, api.ErrTwice)
	x.want(api.Move{Kind: api.MovePay, A: 0, N: 1, Amount: 7}, api.OK)
	x.want(api.Move{Kind: api.MovePay, A: 1, N: 2, Amount: 0}, api.OK)
	x.want(api.Move{Kind: api.MoveSettle, A: 2, N: 0}, api.ErrNone)
	x.want(api.Move{Kind: api.MoveSettle, A: 2, N: 1}, api.ErrState)
	x.all()
	x.want(api.Move{Kind: api.MoveSettle, A: 1, N: 1}, api.ErrNone)
	x.want(api.Move{Kind: api.MoveCancel, A: 1, N: 1}, api.ErrNone)
	x.want(api.Move{Kind: api.MoveSettle, A: 2, N: 1}, api.OK)
	x.want(api.Move{Kind: api.MoveSettle, A: 2, N: 1}, api.ErrState)
	x.want(api.Move{Kind: api.MoveCancel, A: 2, N: 1}, api.ErrState)
	x.want(api.Move{Kind: api.MoveCancel, A: 2, N: 2}, api.OK)
	x.want(api.Move{Kind: api.MoveCancel, A: 2, N: 0}, api.OK)
	x.all()
	x.wantFailed(0, 0, api.InvoiceCancelled)
	x.wantPaid(0, 1, 7)
	x.wantFailed(1, 2, api.InvoiceCancelled)
	x.want(api.Move{Kind: api.MoveClose, A: 0, N: 2}, api.ErrNone)
	x.want(api.Move{Kind: api.MoveClose, A: 0, N: -1}, api.ErrNone)
	x.want(api.Move{Kind: api.MoveClose, A: 1, N: 1}, api.OK)
	x.want(api.Move{Kind: api.MoveClose, A: 1, N: 1}, api.OK)
	x.block()
	x.want(api.Move{Kind: api.MoveClose, A: 1, N: 1}, api.ErrTwice)
}

// P25.1: MoveBytes.
func TestBytes(t *testing.T) {
	x := begin(t, row(3, 0))
	x.want(api.Move{Kind: api.MoveBytes, A: 1, B: 0, Bytes: []byte{1}}, api.ErrMove)
	x.want(api.Move{Kind: api.MoveBytes, A: 0, B: 1, Bytes: []byte{1}}, api.ErrMove)
	x.want(api.Move{Kind: api.MoveBytes, A: 0, B: 2, Bytes: []byte{1}}, api.ErrMove)
	x.allUp()
	x.want(api.Move{Kind: api.MoveBytes, A: 1, B: 0, Bytes: []byte{1}}, api.ErrMove)
	// Behind its greeting, a second one breaks the channel.
	b, e := wire.Encode(api.Msg{Kind: api.MsgHello, Channel: 1, Point: [32]byte{1}})
	if e != api.OK {
		t.Fatal(e)
	}
	x.do(api.Move{Kind: api.MoveBytes, A: 0, B: 1, Bytes: b})
	for i := range b {
		b[i] = 0
	}
	if x.OnWay(0, 1) != 2 || x.OnWay(1, 0) != 1 {
		t.Error("on their way", x.OnWay(0, 1), x.OnWay(1, 0))
	}
	x.do(api.Move{Kind: api.MoveCarry, A: 0, B: 1})
	if _, _, open := x.Node(1).Channel(1); !open {
		t.Error("closed by the first message")
	}
	x.do(api.Move{Kind: api.MoveCarry, A: 0, B: 1})
	if _, _, open := x.Node(1).Channel(1); open {
		t.Error("not closed by the second one")
	}
	// More than a node takes is carried, and not kept.
	ahead := x.inputs()
	x.do(api.Move{Kind: api.MoveBytes, A: 0, B: 1, Bytes: make([]byte, api.MaxInput+1)}, api.Move{Kind: api.MoveCarry, A: 0, B: 1})
	x.wantInputs(ahead, 0, 0, 0)
	x.kill(1, 0)
	x.want(api.Move{Kind: api.MoveBytes, A: 0, B: 1, Bytes: []byte{1}}, api.ErrMove)
}

// P25.1: MoveCheat: the commitments that a node had, in order, each once.
func TestCheat(t *testing.T) {
	n := netOf(3, between(9, 0, 1, 1000, 500), between(4, 1, 2, 1000, 500))
	n.Bad[1] = true
	x := begin(t, n)
	x.want(api.Move{Kind: api.MoveCheat, A: 0}, api.ErrMove)
	x.want(api.Move{Kind: api.MoveCheat, A: 0, N: -1}, api.ErrMove)
	// No input was handed to it yet.
	x.want(api.Move{Kind: api.MoveCheat, A: 1}, api.ErrNone)
	x.allUp()
	x.all()
	x.want(api.Move{Kind: api.MoveCheat, A: 1, N: 2}, api.ErrNone)
	x.want(api.Move{Kind: api.MoveCheat, A: 1, N: -1}, api.ErrNone)
	x.pay(0, x.bill(1, api.InvoicePlain, 100))
	x.all()
	// Channel 9 (the first one of Terms), channel 4; then two more of channel 9: with what came, and with what was paid.
	x.want(api.Move{Kind: api.MoveCheat, A: 1, N: 4}, api.ErrNone)
	// Also if it is dead: it needs nothing for this.
	x.kill(1, 0)
	x.do(api.Move{Kind: api.MoveCheat, A: 1, N: 1})
	x.want(api.Move{Kind: api.MoveCheat, A: 1, N: 1}, api.ErrTwice)
	x.block()
	if x.Spent(9) || !x.Spent(4) {
		t.Error("another channel is spent")
	}
	x.want(api.Move{Kind: api.MoveCheat, A: 1, N: 1}, api.ErrTwice)
	x.do(api.Move{Kind: api.MoveCheat, A: 1, N: 3}, api.Move{Kind: api.MoveCheat, A: 1, N: 2}, api.Move{Kind: api.MoveCheat, A: 1, N: 0})
	x.block()
	x.want(api.Move{Kind: api.MoveCheat, A: 1, N: 0}, api.ErrSpent)
	x.Calm(6)
	x.wantPaid(0, 0, 0)
	// The last commitment of channel 9 was the first one in the pool: nobody is punished.
	if _, chain := x.Wealth(0); chain != 900-3-3 {
		t.Error("node 0 has", chain)
	}
}

// P25.1: MoveAll carries one message of each pair in turn, and not more than MostCarried.
func TestAll(t *testing.T) {
	x := meeting(t, row(3, 0, 2))
	for range 3000 {
		x.do(api.Move{Kind: api.MoveBytes, A: 0, B: 1}, api.Move{Kind: api.MoveBytes, A: 2, B: 1})
	}
	ahead := x.inputs()
	x.all()
	x.wantInputs(ahead, 0, api.MostCarried, 0)
	if x.OnWay(0, 1) != 500 || x.OnWay(2, 1) != 500 {
		t.Error("left", x.OnWay(0, 1), x.OnWay(2, 1))
	}
	x.wantQuiet(false)
	x.all()
	x.wantInputs(ahead, 0, 6000, 0)
	x.wantQuiet(true)
	x.all()
	x.wantInputs(ahead, 0, 6000, 0)
}

// P25.2: Calm.
func TestCalm(t *testing.T) {
	x := begin(t, row(3))
	ahead := faceOf(x.Sim)
	for _, n := range []int{0, -1, math.MinInt} {
		x.Calm(n)
	}
	if !reflect.DeepEqual(faceOf(x.Sim), ahead) {
		t.Error("Calm of no rounds")
	}
	x.kill(1, 0)
	x.kill(2, 1)
	inputs := x.inputs()
	x.Calm(1)
	// At the first one: InDown of two, InUp, a greeting, a tick, a block. At the second one: InStart, InDown of the third one, InUp and a greeting of two, a tick, a block. At the third one: InStart, InUp, a greeting, a tick, a block.
	x.wantInputs(inputs, 6, 8, 5)
	if !x.There(0, 1) || !x.There(1, 2) || x.There(0, 2) || x.Height() != 1 || x.OnWay(0, 1)+x.OnWay(1, 2) > 0 {
		t.Error("not calm")
	}
	inputs = x.inputs()
	x.Calm(2)
	x.wantInputs(inputs, 4, 4, 4)
	x.bill(2, api.InvoicePlain, 100)
	x.pay(0, 0)
	x.Calm(1)
	x.wantPaid(0, 0, 7)
	x.wantQuiet(true)
	// What a node does at the block is carried too.
	x.bill(2, api.InvoiceHold, 100)
	x.pay(0, 1)
	x.Calm(api.LastDelta - plainRules().Grace - 1)
	if s, got := x.Node(2).Invoice(x.Made()[1].Secret); s != api.InvoiceHeld || got != 100 {
		t.Error("not held", s, got)
	}
	x.Calm(1)
	x.wantFailed(0, 1, api.InvoiceCancelled)
	y := begin(t, row(2))
	y.Calm(1001)
	if y.Height() != 1000 {
		t.Error("so many rounds", y.Height())
	}
}
