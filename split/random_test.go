package split

import (
	"math"
	"math/rand"
	"reflect"
	"slices"
	"testing"

	"tollhouse/api"
	"tollhouse/graph"
	"tollhouse/mac"
	"tollhouse/share"
)

func one(r *rand.Rand, l ...int) int { return l[r.Intn(len(l))] }

// anyGraph has a few channels between a few nodes.
func anyGraph(r *rand.Rand, nodes int) *graph.Graph {
	g := graph.New()
	for range 4 + r.Intn(12) {
		from := r.Intn(nodes)
		g.Set(api.Edge{
			Channel:  1 + r.Intn(20),
			From:     from,
			To:       (from + 1 + r.Intn(nodes-1)) % nodes,
			Capacity: one(r, 5, 30, 60, 61, 62, 120, 1000),
			Rules:    api.Rules{Fees: api.Fees{Base: one(r, 0, 0, 1, 2), Rate: one(r, 0, 0, 20000)}, Delta: 1 + r.Intn(5), Grace: 1, Far: 1000},
		})
	}
	return g
}

func anyInvoice(r *rand.Rand, nodes int) api.Invoice {
	i := bill(r.Intn(80), 1+r.Intn(3), one(r, 1, 2, 3, 7, 50, 60, 100, 150, 300))
	i.Node = r.Intn(nodes)
	i.Expiry = one(r, 20, 60, 100, api.MaxExpiry)
	switch r.Intn(40) {
	case 0:
		i.Amount = one(r, 0, -1, api.MaxInvoice, api.MaxInvoice+1)
	case 1:
		i.Kind = one(r, 0, 4)
	}
	return i
}

// walk is payments, the document's words for the same calls, and a graph for each.
type walk struct {
	t     *testing.T
	r     *rand.Rand
	nodes int
	rare  int // how rarely a payment begins
	p     *Payments
	q     *plain
	g, h  *graph.Graph
	seed  [32]byte
	told  map[api.Errno]int
	count map[int]int // how many tries Start made
	again int
}

func (w *walk) same(what string, l, k []api.Try, e, f api.Errno) {
	w.t.Helper()
	if e != f || len(l) != len(k) || len(l) > 0 && !reflect.DeepEqual(l, k) {
		w.t.Fatalf("%s: %v %d, not %v %d", what, l, e, k, f)
	}
	w.told[e]++
}

func (w *walk) step() {
	w.t.Helper()
	height, tick := one(w.r, 0, 10, 20, 21, 60, 61, 100, -1, api.MaxExpiry), one(w.r, 0, 1, 2, 3, 50, 100, 5000)
	if w.r.Intn(60) == 0 {
		height, tick = one(w.r, api.MaxExpiry+1, math.MinInt, math.MaxInt), one(w.r, -1, api.MaxExpiry, api.MaxExpiry+1)
	}
	if len(w.q.payments) == 0 || w.r.Intn(w.rare) == 0 {
		i, most := anyInvoice(w.r, w.nodes), one(w.r, 0, 1, 2, 5, 20, math.MaxInt)
		if w.r.Intn(60) == 0 {
			most = -1
		}
		l, e := w.p.Start(w.g, i, most, w.seed, max(0, height), tick)
		k, f := w.q.start(w.h, i, most, w.seed, max(0, height), tick)
		w.same("Start", l, k, e, f)
		w.count[len(l)]++
		return
	}
	x := w.q.payments[w.r.Intn(len(w.q.payments))]
	number := w.r.Intn(len(x.tries) + 2)
	if w.r.Intn(5) < 4 {
		// The last ones fly most.
		number = len(x.tries) - 1 - w.r.Intn(4)
	}
	if w.r.Intn(4) == 0 {
		secret := w.secretOf(x, number)
		e, f := w.p.Paid(w.g, x.Secret, number, secret, tick), w.q.paid(w.h, x.Secret, number, secret, tick)
		w.same("Paid", nil, nil, e, f)
		return
	}
	hop, reason := w.r.Intn(6)-1, one(w.r, api.ReasonNext, api.ReasonNext, api.ReasonFee, api.ReasonTimeout, api.ReasonSoon, api.ReasonDelta, w.r.Intn(13))
	l, e := w.p.Failed(w.g, x.Secret, number, hop, reason, height, tick)
	k, f := w.q.failed(w.h, x.Secret, number, hop, reason, height, tick)
	w.same("Failed", l, k, e, f)
	w.again += len(l)
}

// secretOf is what pays a try, mostly.
func (w *walk) secretOf(x *plainPayment, number int) [32]byte {
	if w.r.Intn(10) == 0 {
		return [32]byte{1}
	}
	if x.Kind != api.InvoiceSet {
		return secretOf(int(x.Secret[0]) + int(x.Secret[1])<<8 + 1000)
	}
	if number < 0 || number >= len(x.tries) {
		return [32]byte{}
	}
	return share.Secret(mac.Derive(w.seed, "root", 0), mac.Derive(w.seed, "set", 0), x.tries[number].Part)
}

// check asks for P23.4 and P23.5.
func (w *walk) check() {
	w.t.Helper()
	flying := 0
	var list [][32]byte
	for _, x := range w.q.payments {
		state, paid, fees, fly, flyFees, count := x.state()
		s, a, f := w.p.State(x.Secret)
		if s != state || a != paid || f != fees {
			w.t.Fatalf("State: %d %d %d, not %d %d %d", s, a, f, state, paid, fees)
		}
		if paid+fly > x.Amount || fees+flyFees > x.most {
			w.t.Fatalf("%d and %d of %d, fees %d and %d of %d", paid, fly, x.Amount, fees, flyFees, x.most)
		}
		if l := w.p.Tries(x.Secret); len(l) != len(x.tries) || len(l) > 0 && !reflect.DeepEqual(l, x.tries) {
			w.t.Fatal("Tries", l, x.tries)
		}
		if i, ok := w.p.Invoice(x.Secret); !ok || i != x.Invoice {
			w.t.Fatal("Invoice", i, ok)
		}
		flying += count
		list = append(list, x.Secret)
	}
	if w.p.Flying() != flying || !slices.Equal(w.p.List(), list) {
		w.t.Fatal("Flying, List", w.p.Flying(), flying)
	}
	if !reflect.DeepEqual(edges(w.g), edges(w.h)) {
		w.t.Fatal("something else was learnt")
	}
}

// P23.1 to P23.5: any calls, held against the document's words.
func TestAnyhow(t *testing.T) {
	told, count, again := map[api.Errno]int{}, map[int]int{}, 0
	for seed := range int64(300) {
		r := rand.New(rand.NewSource(seed))
		nodes := 2 + r.Intn(4)
		node := r.Intn(nodes)
		g := anyGraph(r, nodes)
		w := &walk{t: t, r: r, nodes: nodes, rare: one(r, 2, 5, 10), p: New(node), q: &plain{node: node}, g: g, h: g.Fork(), seed: [32]byte{byte(seed)}, told: told, count: count}
		for range 150 {
			w.step()
			w.check()
		}
		again += w.again
	}
	for _, e := range []api.Errno{api.OK, api.ErrArg, api.ErrTwice, api.ErrFull, api.ErrNone, api.ErrState, api.ErrSecret} {
		if told[e] < 20 {
			t.Errorf("error %d came up only %d times", e, told[e])
		}
	}
	for _, n := range []int{1, 2, 4, 8, 16} {
		if count[n] < 5 {
			t.Errorf("payments of %d parts came up only %d times", n, count[n])
		}
	}
	if again < 500 {
		t.Error("too few were tried again", again)
	}
}

// A payer that no graph knows finds no way.
func TestStrangePayer(t *testing.T) {
	for _, node := range []int{-1, api.MaxNodes, math.MinInt, math.MaxInt} {
		p := New(node)
		_, e := p.Start(diamond(t, 100), bill(1, api.InvoicePlain, 50), 9, seed(), 3, 4)
		wantErr(t, "Start", e, api.ErrNone)
		wantState(t, p, secretOf(1), api.PayFailed, 0, 0, 0)
	}
}
