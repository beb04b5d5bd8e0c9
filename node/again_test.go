package node

import (
	"math/rand"
	"reflect"
	"testing"

	"tollhouse/api"
	"tollhouse/files"
)

// face is all that a node tells.
type face struct {
	Height   int
	Own      []api.View
	Others   []api.View
	Open     []bool
	Close    []api.Tx
	Payments [][32]byte
	States   [][3]int
	Tries    [][]api.Try
	Invoices []api.Invoice
	Got      [][2]int
	Known    [][32]byte
	Purse    api.Purse
	Idle     bool
}

func faceOf(n *Node) face {
	x := face{Height: n.Height(), Payments: n.Payments(), Invoices: n.Invoices(), Purse: n.Purse(), Idle: n.Idle()}
	know := func(hash [32]byte) {
		if secret, ok := n.Known(hash); ok {
			x.Known = append(x.Known, secret)
		}
	}
	for _, t := range n.config.Terms {
		own, others, open := n.Channel(t.Channel)
		x.Own, x.Others, x.Open = append(x.Own, own), append(x.Others, others), append(x.Open, open)
		tx, _ := n.Close(t.Channel)
		x.Close = append(x.Close, tx)
		for _, h := range own.Htlcs {
			know(h.Hash)
		}
	}
	for _, id := range x.Payments {
		state, paid, fees := n.Payment(id)
		x.States = append(x.States, [3]int{state, paid, fees})
		l := n.Tries(id)
		x.Tries = append(x.Tries, l)
		for _, y := range l {
			know(y.Hash)
		}
	}
	for _, i := range x.Invoices {
		state, got := n.Invoice(i.Secret)
		x.Got = append(x.Got, [2]int{state, got})
		know(i.Hash)
	}
	return x
}

// wantSame asks that two nodes tell the same.
func wantSame(t *testing.T, n, m *Node) {
	t.Helper()
	if x, y := faceOf(n), faceOf(m); !reflect.DeepEqual(x, y) {
		t.Fatalf("they tell different things:\n%+v\n%+v", x, y)
	}
}

// wantLike hands both the same inputs, and asks that they do the same.
func wantLike(t *testing.T, n, m *Node, inputs []api.Input) {
	t.Helper()
	for _, in := range inputs {
		out, e := n.On(in)
		again, f := m.On(in)
		if e != f || !reflect.DeepEqual(out, again) {
			t.Fatal("they do different things")
		}
	}
	wantSame(t, n, m)
}

// P24.7: in the middle of whatever goes on, a node that is opened anew is what its inputs made of it; opened twice it is the same.
func TestAgain(t *testing.T) {
	for seed := range int64(12) {
		r := rand.New(rand.NewSource(1000 + seed))
		x := anyNet(t, r)
		w := anyTemper(r)
		w.stop = 0
		x.allUp()
		for range 200 {
			x.move(r, w, -1)
			if r.Intn(25) > 0 {
				continue
			}
			i := r.Intn(len(x.nodes))
			once, e := Open(x.config(i), x.disks[i].Fork())
			if e != api.OK {
				t.Fatal("Open", e)
			}
			f := x.disks[i].Fork()
			Open(x.config(i), f)
			twice, e := Open(x.config(i), f)
			if e != api.OK || twice.Inputs() != once.Inputs()+1 {
				t.Fatal("opened twice", e)
			}
			wantSame(t, once, twice)
			// The one that goes on is the same, if it begins anew as well.
			for j := range x.nodes {
				x.lose(i, j)
			}
			x.hand(i, api.Input{Kind: api.InStart})
			third, _ := Open(x.config(i), x.disks[i].Fork())
			wantSame(t, x.nodes[i], third)
			wantLike(t, once, twice, []api.Input{{Kind: api.InUp, Peer: 0}, {Kind: api.InTick}, {Kind: api.InUp, Peer: 1}, {Kind: api.InBlock, Height: x.nodes[i].Height() + 30}, {Kind: api.InDown, Peer: 1}})
		}
	}
}

// P24.7, P24.2: the power goes off at any act of an input, and leaves any beginning of what was written.
func TestPowerCut(t *testing.T) {
	x := newNet(t, 3, between(1, 0, 1, 1000, 0), between(2, 1, 2, 1000, 0))
	x.allUp()
	x.all()
	x.pay(0, x.bill(2, api.InvoicePlain, 300, 50), 1)
	x.all()
	x.pay(0, x.bill(1, api.InvoiceSet, 100, 50), 0)
	x.all()
	x.hand(1, api.Input{Kind: api.InClose, Number: 1})
	x.calm(2)
	c := cuts{t: t, config: x.config(1), inputs: x.inputs[1]}
	if len(c.inputs) < 25 {
		t.Fatal("too few inputs", len(c.inputs))
	}
	for k := range c.inputs {
		before, after := c.made(k), c.made(k+1)
		for _, bytes := range []int{0, 1, 11, 12, 13, 30, 1 << 20} {
			c.cut(k, 0, 0, bytes, before, after)
			c.cut(k, 1, 0, bytes, before, after)
			c.cut(k, 1, 1, bytes, before, after)
		}
	}
	if c.lost < 100 || c.kept < 100 {
		t.Error("inputs that were not answered: lost, kept", c.lost, c.kept)
	}
}

// cuts is a node of a configuration, and the inputs that it is handed.
type cuts struct {
	t          *testing.T
	config     api.Config
	inputs     []api.Input
	lost, kept int
}

// live is the node behind its first k inputs, on its disk.
func (c *cuts) live(k int) (*Node, *files.Files) {
	c.t.Helper()
	f := disk(c.t, 1<<20)
	n, e := Open(c.config, f)
	if e != api.OK {
		c.t.Fatal("Open", e)
	}
	for _, in := range c.inputs[:k] {
		on(c.t, n, in)
	}
	return n, f
}

// made is the node behind its first k inputs, opened anew.
func (c *cuts) made(k int) *Node {
	c.t.Helper()
	_, f := c.live(k)
	n, e := Open(c.config, f)
	if e != api.OK {
		c.t.Fatal("Open", e)
	}
	return n
}

// cut lets the disk go off behind so many acts of the input k, and a crash leave so many of these, and bytes: the node is what it was then, or what the input made of it.
func (c *cuts) cut(k, stop, acts, bytes int, before, after *Node) {
	c.t.Helper()
	n, f := c.live(k)
	f.Stop(stop)
	if _, e := n.On(c.inputs[k]); e != api.ErrDead || !n.Dead() {
		c.t.Fatal("On", e)
	}
	if e := f.Crash(acts, bytes); e != api.OK {
		c.t.Fatal("Crash", e)
	}
	again, e := Open(c.config, f)
	if e != api.OK {
		c.t.Fatal("Open", e)
	}
	switch again.Inputs() {
	case before.Inputs():
		c.lost++
		wantSame(c.t, again, before)
	case after.Inputs():
		c.kept++
		wantSame(c.t, again, after)
	default:
		c.t.Fatal("Inputs", again.Inputs())
	}
	if stop == 1 && acts == 1 && again.Inputs() != after.Inputs() || stop == 0 && again.Inputs() != before.Inputs() {
		c.t.Fatal("a crash left another beginning")
	}
}
