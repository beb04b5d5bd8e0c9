package split

import (
	"math"
	"reflect"
	"testing"

	"tollhouse/api"
	"tollhouse/graph"
)

// diamond is two ways from the payer to the payee, by node 1 (channels 1, 2) and by node 2 (3, 4); each costs 2.
func diamond(t *testing.T, capacity int) *graph.Graph {
	t.Helper()
	return graphOf(t, edge(1, 0, 1, capacity), edge(2, 1, 3, capacity), edge(3, 0, 2, capacity), edge(4, 2, 3, capacity))
}

func pastOf(g *graph.Graph, channel, from int) api.Past {
	e, _ := g.Get(channel, from)
	return e.Past
}

// P23.2, P23.3: which payments and tries there are.
func TestNoSuchTry(t *testing.T) {
	g := diamond(t, 100)
	p := New(payer)
	i := bill(1, api.InvoicePlain, 50)
	started(t, p, g, i, 9)
	right := secretOf(1001)
	for _, c := range []struct {
		id     [32]byte
		number int
	}{{secretOf(2), 0}, {i.Secret, 1}, {i.Secret, -1}, {i.Secret, math.MinInt}, {i.Secret, math.MaxInt}} {
		l, e := p.Failed(g, c.id, c.number, 0, api.ReasonNext, 3, 4)
		wantErr(t, "Failed", e, api.ErrNone)
		wantErr(t, "Paid", p.Paid(g, c.id, c.number, right, 4), api.ErrNone)
		if len(l) > 0 {
			t.Error("tries beside an error")
		}
	}
	wantErr(t, "another secret", p.Paid(g, i.Secret, 0, secretOf(5), 4), api.ErrSecret)
	wantState(t, p, i.Secret, api.PayOpen, 0, 0, 1)
	if !reflect.DeepEqual(edges(g), edges(diamond(t, 100))) {
		t.Error("something was learnt beside an error")
	}
	wantErr(t, "Paid", p.Paid(g, i.Secret, 0, right, 4), api.OK)
	wantErr(t, "paid twice", p.Paid(g, i.Secret, 0, right, 4), api.ErrState)
	wantErr(t, "ErrState ahead of ErrSecret", p.Paid(g, i.Secret, 0, secretOf(5), 4), api.ErrState)
	_, e := p.Failed(g, i.Secret, 0, 0, api.ReasonNext, 3, 4)
	wantErr(t, "failed when paid", e, api.ErrState)
	wantState(t, p, i.Secret, api.PayDone, 50, 2, 0)
	j := bill(2, api.InvoicePlain, 50)
	started(t, p, g, j, 9)
	p.Failed(g, j.Secret, 0, 0, api.ReasonGone, 3, 4)
	wantErr(t, "paid when failed", p.Paid(g, j.Secret, 0, secretOf(1002), 4), api.ErrState)
	_, e = p.Failed(g, j.Secret, 0, 0, api.ReasonNext, 3, 4)
	wantErr(t, "failed twice", e, api.ErrState)
}

// P23.2: what is learnt at a hop, and ahead of it.
func TestLearnBad(t *testing.T) {
	for hop := -2; hop <= 3; hop++ {
		g := diamond(t, 100)
		p := New(payer)
		i := bill(1, api.InvoicePlain, 50)
		started(t, p, g, i, 9)
		p.Failed(g, i.Secret, 0, hop, api.ReasonGone, 3, 44)
		good := func(n int) api.Past { return api.Past{Good: n, GoodAt: 44} }
		bad := func(n int) api.Past { return api.Past{Bad: n, BadAt: 44} }
		first, second := api.Past{}, api.Past{}
		switch hop {
		case 0:
			first = bad(52)
		case 1:
			first, second = good(52), bad(50)
		}
		if pastOf(g, 1, 0) != first || pastOf(g, 2, 1) != second || pastOf(g, 3, 0) != (api.Past{}) {
			t.Error("hop", hop, edges(g))
		}
		wantState(t, p, i.Secret, api.PayFailed, 0, 0, 0)
	}
}

// P23.3: what is learnt of a try that is paid.
func TestLearnGood(t *testing.T) {
	g := diamond(t, 100)
	p := New(payer)
	i := bill(1, api.InvoicePlain, 50)
	started(t, p, g, i, 9)
	wantErr(t, "Paid", p.Paid(g, i.Secret, 0, secretOf(1001), 44), api.OK)
	if pastOf(g, 1, 0) != (api.Past{Good: 52, GoodAt: 44}) || pastOf(g, 2, 1) != (api.Past{Good: 50, GoodAt: 44}) || pastOf(g, 3, 0) != (api.Past{}) {
		t.Error(edges(g))
	}
	if l := p.Tries(i.Secret); l[0].State != api.TryPaid || l[0].Secret != secretOf(1001) {
		t.Error("the try", l)
	}
}

// P23.2: another try of the part, on the way that is best then.
func TestAgain(t *testing.T) {
	g := diamond(t, 100)
	p := New(payer)
	i := bill(1, api.InvoiceSet, 150)
	l := started(t, p, g, i, 9)
	if len(l) != 2 || l[0].Way.Edges[0].Channel != 1 || l[1].Way.Edges[0].Channel != 3 {
		t.Fatal("two parts", l)
	}
	again, e := p.Failed(g, i.Secret, 1, 1, api.ReasonNext, 7, 44)
	if e != api.OK || len(again) != 1 {
		t.Fatal("again", again, e)
	}
	x := again[0]
	// The capacities are the graph's again: who else is flying does not count.
	if x.Number != 2 || x.Part != 1 || x.State != api.TryFlying || x.Amount != 75 || x.Payment != i.Secret || x.Way.Edges[0].Channel != 1 || x.Way.Expiries[1] != 19 {
		t.Error("again", x)
	}
	if x.Hash != l[1].Hash || x.Share != l[1].Share || x.Set != l[1].Set || x.Secret != [32]byte{} {
		t.Error("another lock", x)
	}
	all := p.Tries(i.Secret)
	if len(all) != 3 || all[0].State != api.TryFlying || all[1].State != api.TryFailed || !reflect.DeepEqual(all[2], x) {
		t.Error("Tries", all)
	}
	wantState(t, p, i.Secret, api.PayOpen, 0, 0, 2)
}

// P23.2: when a part is given up.
func TestGivenUp(t *testing.T) {
	for _, c := range []struct {
		what                      string
		reason, height, sum, paid int
		again                     bool
	}{
		{"next", api.ReasonNext, 3, 50, 0, true},
		{"fee", api.ReasonFee, 3, 50, 0, true},
		{"delta", api.ReasonDelta, 3, 50, 0, true},
		{"soon", api.ReasonSoon, 3, 50, 0, true},
		{"timeout", api.ReasonTimeout, 3, 50, 0, true},
		{"onion", api.ReasonOnion, 3, 50, 0, false},
		{"far", api.ReasonFar, 3, 50, 0, false},
		{"unknown", api.ReasonUnknown, 3, 50, 0, false},
		{"amount", api.ReasonAmount, 3, 50, 0, false},
		{"gone", api.ReasonGone, 3, 50, 0, false},
		{"none", 0, 3, 50, 0, false},
		{"any", 99, 3, 50, 0, false},
		{"at the expiry", api.ReasonNext, 90, 50, 0, true},
		{"behind the expiry", api.ReasonNext, 91, 50, 0, false},
		{"below 0", api.ReasonNext, -1, 50, 0, false},
		{"beyond all", api.ReasonNext, api.MaxExpiry + 1, 50, 0, false},
		{"far beyond", api.ReasonNext, math.MaxInt, 50, 0, false},
		{"one part flying", api.ReasonNext, 3, 150, 0, true},
		{"one part paid", api.ReasonNext, 3, 150, 1, false},
	} {
		g := diamond(t, 100)
		p := New(payer)
		i := bill(1, api.InvoicePlain, c.sum)
		l := started(t, p, g, i, 9)
		if c.paid > 0 {
			wantErr(t, "Paid", p.Paid(g, i.Secret, 1, secretOf(1001), 4), api.OK)
		}
		again, e := p.Failed(g, i.Secret, 0, -1, c.reason, c.height, 4)
		wantErr(t, c.what, e, api.OK)
		if (len(again) == 1) != c.again || p.Flying() != len(l)-1-c.paid+len(again) {
			t.Error(c.what, again, p.Flying())
		}
		want := api.PayOpen
		switch {
		case p.Flying() == 0 && c.paid > 0:
			want = api.PayDone
		case p.Flying() == 0:
			want = api.PayFailed
		}
		if s, _, _ := p.State(i.Secret); s != want {
			t.Error(c.what, "state", s)
		}
	}
}

// P23.2: once a part was given up, no other one is tried again; and a payment that has one paid part is done.
func TestOthersAreNotTriedAgain(t *testing.T) {
	for _, paid := range []bool{false, true} {
		g := diamond(t, 100)
		p := New(payer)
		i := bill(1, api.InvoicePlain, 150)
		started(t, p, g, i, 9)
		p.Failed(g, i.Secret, 0, -1, api.ReasonGone, 3, 4)
		wantState(t, p, i.Secret, api.PayOpen, 0, 0, 1)
		if paid {
			wantErr(t, "Paid", p.Paid(g, i.Secret, 1, secretOf(1001), 4), api.OK)
			wantState(t, p, i.Secret, api.PayDone, 75, 2, 0)
			continue
		}
		l, e := p.Failed(g, i.Secret, 1, -1, api.ReasonNext, 3, 4)
		if e != api.OK || len(l) > 0 {
			t.Error("tried again", l, e)
		}
		wantState(t, p, i.Secret, api.PayFailed, 0, 0, 0)
	}
}

// P23.2: MaxTries.
func TestMaxTries(t *testing.T) {
	g := diamond(t, 100)
	p := New(payer)
	i := bill(1, api.InvoicePlain, 150)
	started(t, p, g, i, 9)
	number := 0
	for k := 2; k < api.MaxTries; k++ {
		l, e := p.Failed(g, i.Secret, number, -1, api.ReasonNext, 3, 4)
		if e != api.OK || len(l) != 1 || l[0].Number != k {
			t.Fatal("try", k, l, e)
		}
		number = k
	}
	l, e := p.Failed(g, i.Secret, number, -1, api.ReasonNext, 3, 4)
	if e != api.OK || len(l) > 0 || len(p.Tries(i.Secret)) != api.MaxTries {
		t.Error("one try too many", l, e)
	}
	wantState(t, p, i.Secret, api.PayOpen, 0, 0, 1)
}

// P23.2: the fees that are left are most, less those of the tries that are flying.
func TestFeesLeft(t *testing.T) {
	for most := 4; most <= 9; most++ {
		// Two parts, 2 each; the way that is left when channel 2 was bad costs 5.
		dear := rules()
		dear.Fees.Base = 5
		g := diamond(t, 60)
		x := edge(5, 1, 3, 60)
		x.Rules = dear
		g.Set(x)
		p := New(payer)
		i := bill(1, api.InvoicePlain, 100)
		l := started(t, p, g, i, most)
		if len(l) != 2 {
			t.Fatal("two parts", l)
		}
		// The other way is taken away.
		g.Remove(3, 0)
		again, e := p.Failed(g, i.Secret, 0, 1, api.ReasonFee, 3, 44)
		if e != api.OK || (len(again) == 1) != (most >= 7) {
			t.Error("most", most, again, e)
		}
		sum := 0
		for _, x := range p.Tries(i.Secret) {
			if x.State == api.TryFlying {
				sum += x.Way.Fee
			}
		}
		if sum > most {
			t.Error("fees", sum, "beyond", most)
		}
	}
}

// P23.2, P23.3: without a graph nothing is learnt, and no way is found.
func TestNoGraph(t *testing.T) {
	g := diamond(t, 100)
	p := New(payer)
	i, j := bill(1, api.InvoicePlain, 50), bill(2, api.InvoicePlain, 50)
	started(t, p, g, i, 9)
	started(t, p, g, j, 9)
	l, e := p.Failed(nil, i.Secret, 0, 0, api.ReasonNext, 3, 4)
	if e != api.OK || len(l) > 0 {
		t.Error("Failed", l, e)
	}
	wantErr(t, "Paid", p.Paid(nil, j.Secret, 0, secretOf(1002), 4), api.OK)
	wantState(t, p, i.Secret, api.PayFailed, 0, 0, 0)
	wantState(t, p, j.Secret, api.PayDone, 50, 2, 0)
}

// P23.4: Hops is what the onion tells. The last hop's Amount is the try's own; of a try that nobody laid, that is not what goes into the last edge.
func TestHops(t *testing.T) {
	i := bill(1, api.InvoiceSet, 300)
	x := api.Try{Part: 3, Amount: 90, Share: [32]byte{4}, Set: [32]byte{5}}
	if len(Hops(x, i)) > 0 {
		t.Error("hops of no way")
	}
	x.Way = api.Way{Edges: []api.Edge{edge(6, 0, 1, 0)}, Amounts: []int{100}, Expiries: []int{20}}
	last := api.Hop{Amount: 90, Expiry: 20, Secret: i.Secret, Total: 300, Set: [32]byte{5}, Index: 3, Share: [32]byte{4}}
	if l := Hops(x, i); !reflect.DeepEqual(l, []api.Hop{last}) {
		t.Error("one edge", l)
	}
	x.Way = api.Way{Edges: []api.Edge{edge(6, 0, 1, 0), edge(7, 1, 2, 0), edge(8, 2, 3, 0)}, Amounts: []int{104, 102, 100}, Expiries: []int{30, 25, 20}}
	want := []api.Hop{{Channel: 7, Amount: 102, Expiry: 25}, {Channel: 8, Amount: 100, Expiry: 20}, last}
	if l := Hops(x, i); !reflect.DeepEqual(l, want) {
		t.Error("three edges", l)
	}
	x.Way.Amounts, x.Way.Expiries = x.Way.Amounts[:1], nil
	last.Expiry = 0
	want = []api.Hop{{Channel: 7}, {Channel: 8}, last}
	if l := Hops(x, i); !reflect.DeepEqual(l, want) {
		t.Error("lists that are too short", l)
	}
}

// P23.4: of a try that was laid, both amounts are the same: what the payee is told is what it gets.
func TestHopsOfLaid(t *testing.T) {
	i := bill(1, api.InvoicePlain, 50)
	for _, x := range started(t, New(payer), diamond(t, 100), i, 9) {
		l := Hops(x, i)
		if last := len(l) - 1; l[last].Amount != x.Way.Amounts[last] || l[last].Amount != x.Amount || l[last].Expiry != x.Way.Expiries[last] {
			t.Error(l, x)
		}
	}
}

// P23.4: Invoice, and what there is not.
func TestLook(t *testing.T) {
	g := diamond(t, 100)
	p := New(payer)
	i := bill(1, api.InvoicePlain, 50)
	started(t, p, g, i, 9)
	if x, ok := p.Invoice(i.Secret); !ok || x != i {
		t.Error("Invoice", x, ok)
	}
	if x, ok := p.Invoice(secretOf(2)); ok || x != (api.Invoice{}) {
		t.Error("no Invoice", x, ok)
	}
	wantState(t, p, secretOf(2), 0, 0, 0, 1)
	if len(p.Tries(secretOf(2))) > 0 {
		t.Error("no Tries")
	}
}

// R3: answers are nobody else's.
func TestLists(t *testing.T) {
	g := diamond(t, 100)
	p := New(payer)
	i := bill(1, api.InvoicePlain, 150)
	l := started(t, p, g, i, 9)
	want := p.Tries(i.Secret)
	spoil := func(l []api.Try) {
		for k := range l {
			w := l[k].Way
			w.Edges[0], w.Amounts[0], w.Expiries[0] = api.Edge{}, -1, -1
			l[k] = api.Try{}
		}
	}
	spoil(l)
	spoil(p.Tries(i.Secret))
	again, _ := p.Failed(g, i.Secret, 0, -1, api.ReasonNext, 3, 4)
	all := p.Tries(i.Secret)
	if !reflect.DeepEqual(all[2], again[0]) || !reflect.DeepEqual(all[1], want[1]) {
		t.Error("Tries changed with what was answered")
	}
	spoil(again)
	if !reflect.DeepEqual(p.Tries(i.Secret), all) {
		t.Error("what Failed answers is kept")
	}
	ids := p.List()
	ids[0] = [32]byte{}
	if p.List()[0] != i.Secret {
		t.Error("List is kept")
	}
}
