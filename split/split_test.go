package split

import (
	"math"
	"reflect"
	"testing"

	"tollhouse/amount"
	"tollhouse/api"
	"tollhouse/graph"
	"tollhouse/mac"
	"tollhouse/share"
)

// The payer is node 0, the payee node 3, in all tests that do not say otherwise.
const payer, payee = 0, 3

func rules() api.Rules {
	return api.Rules{Fees: api.Fees{Base: 2}, Delta: 5, Grace: 1, Far: 100}
}

// edge is a channel of a capacity, in one direction.
func edge(channel, from, to, capacity int) api.Edge {
	return api.Edge{Channel: channel, From: from, To: to, Capacity: capacity, Rules: rules()}
}

func graphOf(t *testing.T, l ...api.Edge) *graph.Graph {
	t.Helper()
	g := graph.New()
	for _, e := range l {
		if x := g.Set(e); x != api.OK {
			t.Fatal("Set", x)
		}
	}
	return g
}

// edges is all that g has.
func edges(g *graph.Graph) []api.Edge {
	var l []api.Edge
	for node := range api.MaxNodes {
		for e := range g.From(node) {
			l = append(l, e)
		}
	}
	return l
}

func secretOf(n int) [32]byte { return [32]byte{byte(n), byte(n >> 8), 7} }

// bill is an invoice, known by n.
func bill(n, kind, sum int) api.Invoice {
	i := api.Invoice{Node: payee, Kind: kind, Secret: secretOf(n), Amount: sum, Expiry: 90, Text: "x"}
	if kind != api.InvoiceSet {
		i.Hash = mac.Hash(secretOf(n + 1000))
	}
	return i
}

func seed() [32]byte { return [32]byte{9, 9} }

// started is a payment of an invoice that begins.
func started(t *testing.T, p *Payments, g *graph.Graph, i api.Invoice, most int) []api.Try {
	t.Helper()
	l, e := p.Start(g, i, most, seed(), 3, 4)
	if e != api.OK {
		t.Fatal("Start", e)
	}
	return l
}

func wantErr(t *testing.T, what string, got, want api.Errno) {
	t.Helper()
	if got != want {
		t.Errorf("%s: %d, not %d", what, got, want)
	}
}

func wantState(t *testing.T, p *Payments, id [32]byte, state, paid, fees, flying int) {
	t.Helper()
	s, a, f := p.State(id)
	if s != state || a != paid || f != fees || p.Flying() != flying {
		t.Errorf("State: %d %d %d, %d flying; not %d %d %d, %d", s, a, f, p.Flying(), state, paid, fees, flying)
	}
}

// The example of chapter 23.
func TestTwoChannelsOf60(t *testing.T) {
	g := graphOf(t, edge(1, 0, 3, 60), edge(2, 0, 3, 60))
	l := started(t, New(payer), g, bill(1, api.InvoicePlain, 100), 0)
	if len(l) != 2 || l[0].Amount != 50 || l[1].Amount != 50 {
		t.Error(l)
	}
}

// P23.1: what Start refuses, and what goes ahead.
func TestStartRefuses(t *testing.T) {
	good := bill(1, api.InvoicePlain, 10)
	for _, c := range []struct {
		what         string
		change       func(i *api.Invoice)
		most         int
		height, tick int
		want         api.Errno
	}{
		{"good", func(i *api.Invoice) {}, 0, 90, api.MaxExpiry, api.OK},
		{"at 0", func(i *api.Invoice) { i.Expiry = 0 }, math.MaxInt, 0, 0, api.OK},
		{"the greatest expiry", func(i *api.Invoice) { i.Expiry = api.MaxExpiry }, 0, api.MaxExpiry, 0, api.OK},
		{"no invoice", func(i *api.Invoice) { i.Kind = 0 }, 0, 0, 0, api.ErrArg},
		{"no hash", func(i *api.Invoice) { i.Hash = [32]byte{} }, 0, 0, 0, api.ErrArg},
		{"an amount of 0", func(i *api.Invoice) { i.Amount = 0 }, 0, 0, 0, api.ErrArg},
		{"too much", func(i *api.Invoice) { i.Amount = api.MaxInvoice + 1 }, 0, 0, 0, api.ErrArg},
		{"of the payer", func(i *api.Invoice) { i.Node = payer }, 0, 0, 0, api.ErrArg},
		{"fees below 0", func(i *api.Invoice) {}, -1, 0, 0, api.ErrArg},
		{"height below 0", func(i *api.Invoice) {}, 0, -1, 0, api.ErrArg},
		{"height beyond", func(i *api.Invoice) {}, 0, api.MaxExpiry + 1, 0, api.ErrArg},
		{"tick below 0", func(i *api.Invoice) {}, 0, 0, -1, api.ErrArg},
		{"tick beyond", func(i *api.Invoice) {}, 0, 0, api.MaxExpiry + 1, api.ErrArg},
		{"expired", func(i *api.Invoice) {}, 0, 91, 0, api.ErrState},
		{"too much for all", func(i *api.Invoice) { i.Amount = api.MaxInvoice }, 0, 0, 0, api.ErrNone},
	} {
		i := good
		c.change(&i)
		p := New(payer)
		g := graphOf(t, edge(1, 0, 3, 1000))
		l, e := p.Start(g, i, c.most, seed(), c.height, c.tick)
		wantErr(t, c.what, e, c.want)
		if (len(l) > 0) != (e == api.OK) {
			t.Error(c.what, "tries beside an error", l)
		}
		// Only of ErrNone there is a payment nevertheless.
		if there := e == api.OK || e == api.ErrNone; (len(p.List()) == 1) != there {
			t.Error(c.what, "payments", p.List())
		}
	}
	p := New(payer)
	_, e := p.Start(nil, good, 0, seed(), 0, 0)
	wantErr(t, "no graph", e, api.ErrArg)
	g := graphOf(t, edge(1, 0, 3, 1000))
	started(t, p, g, good, 0)
	_, e = p.Start(g, good, -1, seed(), 0, 0)
	wantErr(t, "ErrArg ahead of ErrTwice", e, api.ErrArg)
	_, e = p.Start(g, good, 0, seed(), 91, 0)
	wantErr(t, "ErrTwice ahead of ErrState", e, api.ErrTwice)
}

// P23.1: MaxPayments, those that failed among them.
func TestFull(t *testing.T) {
	p := New(payer)
	g := graphOf(t, edge(1, 0, 3, 100))
	for n := range api.MaxPayments {
		sum := 10
		want := api.OK
		if n%2 == 1 {
			sum, want = 101, api.ErrNone
		}
		_, e := p.Start(g, bill(n, api.InvoicePlain, sum), 0, seed(), 3, 4)
		wantErr(t, "Start", e, want)
	}
	_, e := p.Start(g, bill(5, api.InvoicePlain, 10), 0, seed(), 3, 4)
	wantErr(t, "ErrTwice ahead of ErrFull", e, api.ErrTwice)
	_, e = p.Start(g, bill(99, api.InvoicePlain, 10), 0, seed(), 91, 4)
	wantErr(t, "ErrFull ahead of ErrState", e, api.ErrFull)
	l := p.List()
	if len(l) != api.MaxPayments {
		t.Fatal("List", len(l))
	}
	for n, id := range l {
		if id != secretOf(n) {
			t.Error("List is not in the order in which they began", n)
		}
	}
}

// P23.1: as few parts as can be: 1, 2, 4, 8, 16, and no more than the amount.
func TestParts(t *testing.T) {
	for _, c := range []struct{ channels, capacity, sum, parts int }{
		{20, 100, 100, 1}, {20, 100, 101, 2}, {20, 100, 200, 2}, {20, 100, 201, 4}, {20, 100, 400, 4}, {20, 100, 401, 8},
		{20, 100, 801, 16}, {20, 100, 1600, 16}, {20, 100, 1601, 0}, {15, 100, 1600, 0}, {3, 100, 300, 0}, {3, 100, 264, 8}, {3, 100, 201, 4}, {3, 100, 200, 2},
		{20, 1, 1, 1}, {20, 1, 2, 2}, {20, 1, 3, 0}, {20, 1, 4, 4}, {20, 1, 7, 0}, {20, 1, 8, 8}, {20, 1, 16, 16}, {20, 1, 17, 0},
		{2, 2, 3, 2}, {4, 3, 7, 4},
	} {
		var l []api.Edge
		for k := range c.channels {
			l = append(l, edge(k+1, 0, 3, c.capacity))
		}
		p := New(payer)
		g := graphOf(t, l...)
		tries, e := p.Start(g, bill(1, api.InvoicePlain, c.sum), 0, seed(), 3, 4)
		if c.parts == 0 {
			wantErr(t, "too much", e, api.ErrNone)
			wantState(t, p, secretOf(1), api.PayFailed, 0, 0, 0)
			if len(p.Tries(secretOf(1))) > 0 {
				t.Error("tries of a payment that never began")
			}
		} else if len(tries) != c.parts {
			t.Errorf("%d over channels of %d: %d parts, not %d", c.sum, c.capacity, len(tries), c.parts)
		}
		for k, x := range tries {
			if x.Amount != amount.Share(c.sum, c.parts, k) || x.Part != k || x.Number != k || x.State != api.TryFlying || x.Payment != secretOf(1) {
				t.Error("try", k, x)
			}
		}
		if !reflect.DeepEqual(edges(g), l) {
			t.Error("Start changed the graph")
		}
		if !reflect.DeepEqual(p.Tries(secretOf(1)), tries) && c.parts > 0 {
			t.Error("Tries tells others than Start did")
		}
	}
}

// P23.1: what one part takes of a channel, and of the fees, is not there for the next.
func TestLaying(t *testing.T) {
	// By node 1 it costs 2, straight nothing.
	g := graphOf(t, edge(1, 0, 1, 1000), edge(2, 1, 3, 1000), edge(3, 0, 3, 59))
	for _, c := range []struct{ sum, most, straight, round int }{
		{59, 0, 1, 0}, {60, 2, 0, 1}, {60, 1, 0, 0}, {118, 2, 0, 1}, {118, 1, 0, 0},
	} {
		p := New(payer)
		l, e := p.Start(g, bill(1, api.InvoicePlain, c.sum), c.most, seed(), 3, 4)
		straight, round := 0, 0
		for _, x := range l {
			if len(x.Way.Edges) == 1 {
				straight++
			} else {
				round++
			}
		}
		if straight != c.straight || round != c.round || (e == api.OK) != (straight+round > 0) {
			t.Errorf("%d for %d: %d straight, %d round, %d", c.sum, c.most, straight, round, e)
		}
	}
	// Two parts fit by their capacities, but the fees do for one alone.
	g = graphOf(t, edge(1, 0, 1, 60), edge(2, 1, 3, 60), edge(3, 0, 2, 60), edge(4, 2, 3, 60))
	for most := range 6 {
		l, e := New(payer).Start(g, bill(1, api.InvoicePlain, 100), most, seed(), 3, 4)
		if (e == api.OK) != (most >= 4) || e == api.OK && len(l) != 2 {
			t.Error("fees of two parts", most, e, len(l))
		}
	}
	// Of two parts over one channel each takes its own.
	g = graphOf(t, edge(1, 0, 1, 104), edge(2, 1, 3, 50), edge(3, 1, 3, 50))
	l := started(t, New(payer), g, bill(1, api.InvoicePlain, 100), 9)
	if len(l) != 2 || l[1].Way.Edges[0].Capacity != 52 || l[0].Way.Edges[1].Channel == l[1].Way.Edges[1].Channel {
		t.Error("two parts over one channel", l)
	}
	g = graphOf(t, edge(1, 0, 1, 103), edge(2, 1, 3, 50), edge(3, 1, 3, 50))
	_, e := New(payer).Start(g, bill(1, api.InvoicePlain, 100), 99, seed(), 3, 4)
	wantErr(t, "one too little for both", e, api.ErrNone)
}

// P23.1: ways are looked for from the node, at the tick, and expire LastDelta behind the height, at most at MaxExpiry.
func TestWants(t *testing.T) {
	for _, c := range []struct{ height, last int }{{0, 12}, {3, 15}, {api.MaxExpiry - 12, api.MaxExpiry}, {api.MaxExpiry - 11, api.MaxExpiry}, {api.MaxExpiry, api.MaxExpiry}} {
		i := bill(1, api.InvoicePlain, 10)
		i.Expiry = api.MaxExpiry
		g := graphOf(t, edge(1, 4, 3, 100), edge(2, 4, 1, 100), edge(3, 1, 3, 100))
		bad := edge(1, 4, 3, 100)
		bad.Past = api.Past{Bad: 1, BadAt: 70}
		p := New(4)
		l, e := p.Start(g, i, 9, seed(), c.height, 70)
		if e != api.OK || len(l) != 1 || len(l[0].Way.Edges) != 1 || l[0].Way.Expiries[0] != c.last {
			t.Error(c.height, l, e)
		}
		// At the tick at which it was bad the straight one is of no use.
		g.Set(bad)
		l, e = New(4).Start(g, i, 9, seed(), c.height, 70)
		if far := c.last+5 > api.MaxExpiry; far != (e == api.ErrNone) || !far && len(l[0].Way.Edges) != 2 {
			t.Error("round", c.height, l, e)
		}
		// Long behind, it is again.
		l, e = New(4).Start(g, i, 9, seed(), c.height, 70+64*64)
		if e != api.OK || len(l[0].Way.Edges) != 1 {
			t.Error("behind", c.height, l, e)
		}
	}
}

// P23.1: hashes, shares and names.
func TestLocks(t *testing.T) {
	g := graphOf(t, edge(1, 0, 3, 60), edge(2, 0, 3, 60), edge(3, 0, 3, 60), edge(4, 0, 3, 60))
	for _, kind := range []int{api.InvoicePlain, api.InvoiceHold} {
		i := bill(1, kind, 200)
		for _, x := range started(t, New(payer), g, i, 0) {
			if x.Hash != i.Hash || x.Share != [32]byte{} || x.Set != [32]byte{} || x.Secret != [32]byte{} {
				t.Error("kind", kind, x)
			}
		}
	}
	i := bill(1, api.InvoiceSet, 200)
	l := started(t, New(payer), g, i, 0)
	root, name := mac.Derive(seed(), "root", 0), mac.Derive(seed(), "set", 0)
	shares, _ := share.Split(root, seed(), 4)
	if len(l) != 4 {
		t.Fatal("parts", len(l))
	}
	for k, x := range l {
		if x.Hash != share.Hash(root, name, k) || x.Share != shares[k] || x.Set != name {
			t.Error("a part of a set", k, x)
		}
	}
}

// Of a nil Payments, and of one that New did not make.
func TestNil(t *testing.T) {
	for _, p := range []*Payments{nil, {}} {
		g := graphOf(t, edge(1, 0, 3, 100))
		l, e := p.Start(g, bill(1, api.InvoicePlain, 10), 0, seed(), 3, 4)
		wantErr(t, "Start", e, api.ErrClosed)
		k, e := p.Failed(g, secretOf(1), 0, 0, api.ReasonNext, 3, 4)
		wantErr(t, "Failed", e, api.ErrClosed)
		wantErr(t, "Paid", p.Paid(g, secretOf(1), 0, secretOf(1), 4), api.ErrClosed)
		i, ok := p.Invoice(secretOf(1))
		if len(l)+len(k)+len(p.Tries(secretOf(1)))+len(p.List()) > 0 || ok || i != (api.Invoice{}) {
			t.Error("something of nothing")
		}
		wantState(t, p, secretOf(1), 0, 0, 0, 0)
	}
}
