package sim

import (
	"testing"

	"tollhouse/api"
)

// plainRules let P2 hold, with Delays of 2 and a Margin of 3.
func plainRules() api.Rules {
	return api.Rules{Fees: api.Fees{Base: 7}, Delta: 20, Grace: 8, Far: 300}
}

// between is a channel's terms.
func between(number, a, b, startA, startB int) api.Terms {
	return api.Terms{Channel: number, A: a, B: b, StartA: startA, StartB: startB, Delay: 2, Fee: 3, Slots: 8, Flight: 1 << 40}
}

// netOf is a net of so many nodes with these channels, in which all keep to the rules.
func netOf(nodes int, terms ...api.Terms) api.Net {
	t := api.Net{Nodes: nodes, Seed: [32]byte{77}, Terms: terms, Wait: 5, Margin: 3, Bad: make([]bool, nodes)}
	for range nodes {
		t.Rules = append(t.Rules, plainRules())
	}
	return t
}

// row is a net of nodes in a row, the i-th channel (from 1 on) between i - 1 and i. Those of bad may do what they like.
func row(nodes int, bad ...int) api.Net {
	t := netOf(nodes)
	for i := 1; i < nodes; i++ {
		t.Terms = append(t.Terms, between(i, i-1, i, 1000, 1000))
	}
	for _, i := range bad {
		t.Bad[i] = true
	}
	return t
}

// world is a net that a test plays with.
type world struct {
	t *testing.T
	*Sim
}

// begin is the net of n, whose nodes are parted.
func begin(t *testing.T, n api.Net) *world {
	t.Helper()
	s, e := New(n)
	if e != api.OK {
		t.Fatal("New", e)
	}
	return &world{t, s}
}

// meeting is the net of n, whose neighbours are there for one another, with nothing on its way.
func meeting(t *testing.T, n api.Net) *world {
	t.Helper()
	x := begin(t, n)
	x.allUp()
	x.all()
	return x
}

// want asks what a move answers.
func (x *world) want(m api.Move, e api.Errno) {
	x.t.Helper()
	if got := x.Do(m); got != e {
		x.t.Errorf("%+v: %d, not %d", m, got, e)
	}
}

// do lets moves happen, which may all be.
func (x *world) do(moves ...api.Move) {
	x.t.Helper()
	for _, m := range moves {
		if e := x.Do(m); e != api.OK {
			x.t.Fatalf("%+v: %d", m, e)
		}
	}
}

func (x *world) all() {
	x.t.Helper()
	x.do(api.Move{Kind: api.MoveAll})
}

func (x *world) block() {
	x.t.Helper()
	x.do(api.Move{Kind: api.MoveBlock})
}

func (x *world) up(a, b int) {
	x.t.Helper()
	x.do(api.Move{Kind: api.MoveUp, A: a, B: b})
}

// allUp lets all neighbours be there for one another that are not.
func (x *world) allUp() {
	for i := range x.net.Nodes {
		for j := range i {
			x.Do(api.Move{Kind: api.MoveUp, A: j, B: i})
		}
	}
}

// bill lets a node make an invoice, and is its place.
func (x *world) bill(i, kind, sum int) int {
	x.t.Helper()
	x.do(api.Move{Kind: api.MoveInvoice, A: i, N: kind, Amount: sum, Expiry: x.Height() + 50})
	return len(x.Made()) - 1
}

// pay lets a node pay the invoice of a place.
func (x *world) pay(i, place int) {
	x.t.Helper()
	x.do(api.Move{Kind: api.MovePay, A: i, N: place, Amount: 50})
}

// kill lets a node be dead: its disk does not answer behind so many acts.
func (x *world) kill(i, acts int) {
	x.t.Helper()
	x.do(api.Move{Kind: api.MoveStop, A: i, N: acts})
	for range 3 {
		x.Do(api.Move{Kind: api.MoveTick, A: i})
	}
	if !x.Node(i).Dead() {
		x.t.Fatal("it is not dead")
	}
}

// wantPaid asks that a node's payment of the invoice of a place is done, with these fees, and that it is settled.
func (x *world) wantPaid(i, place, fees int) {
	x.t.Helper()
	m := x.Made()[place]
	if s, paid, f := x.Node(i).Payment(m.Secret); s != api.PayDone || paid != m.Amount || f != fees {
		x.t.Fatalf("the payment: state %d, %d, fees %d", s, paid, f)
	}
	if s, got := x.Node(m.Node).Invoice(m.Secret); s != api.InvoiceSettled || got != m.Amount {
		x.t.Fatalf("the invoice: state %d, %d", s, got)
	}
}

// wantFailed asks that it failed, and that the invoice is in this state.
func (x *world) wantFailed(i, place, is int) {
	x.t.Helper()
	m := x.Made()[place]
	if s, paid, f := x.Node(i).Payment(m.Secret); s != api.PayFailed || paid+f != 0 {
		x.t.Fatalf("the payment: state %d, %d, fees %d", s, paid, f)
	}
	if s, got := x.Node(m.Node).Invoice(m.Secret); s != is || got != 0 {
		x.t.Fatalf("the invoice: state %d, %d", s, got)
	}
}

// wantWealth asks what nodes have, in channels and on the chain.
func (x *world) wantWealth(want ...[2]int) {
	x.t.Helper()
	for i, w := range want {
		if open, chain := x.Wealth(i); [2]int{open, chain} != w {
			x.t.Errorf("node %d has %d and %d, not %v", i, open, chain, w)
		}
	}
}

// wantQuiet asks that nothing is left to be done.
func (x *world) wantQuiet(want bool) {
	x.t.Helper()
	if x.Quiet() != want {
		x.t.Errorf("Quiet is %v", !want)
	}
}

// inputs is how many inputs each node kept.
func (x *world) inputs() []int {
	var l []int
	for i := range x.net.Nodes {
		l = append(l, x.Node(i).Inputs())
	}
	return l
}

// wantInputs asks how many more each node keeps than ahead.
func (x *world) wantInputs(ahead []int, more ...int) {
	x.t.Helper()
	for i, n := range x.inputs() {
		if n-ahead[i] != more[i] {
			x.t.Errorf("node %d kept %d inputs more, not %d", i, n-ahead[i], more[i])
		}
	}
}
