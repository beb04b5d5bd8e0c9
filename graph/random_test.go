package graph

import (
	"math"
	"math/rand"
	"slices"
	"testing"

	"tollhouse/api"
	"tollhouse/policy"
	"tollhouse/score"
)

// one is one of these.
func one(r *rand.Rand, l ...int) int { return l[r.Intn(len(l))] }

// anyEdge is an edge between the first nodes; ways of such edges often cost the same.
func anyEdge(r *rand.Rand, nodes int) api.Edge {
	from := r.Intn(nodes)
	e := api.Edge{
		Channel:  1 + r.Intn(12),
		From:     from,
		To:       (from + 1 + r.Intn(nodes-1)) % nodes,
		Capacity: one(r, 99, 100, 101, 103, 120, 1000, 1000, 1000),
		Rules:    api.Rules{Fees: api.Fees{Base: one(r, 0, 0, 1, 3), Rate: one(r, 0, 0, 10000)}, Delta: one(r, 1, 1, 2, 10), Far: 1000},
	}
	switch r.Intn(8) {
	case 0:
		e.Past = api.Past{Good: 100 + r.Intn(9), GoodAt: 1 + r.Intn(100)}
	case 1:
		e.Past = api.Past{Bad: 98 + r.Intn(9), BadAt: 1 + r.Intn(100)}
	case 2:
		e.Past = api.Past{Good: 100 + r.Intn(9), GoodAt: 100, Bad: 98 + r.Intn(9), BadAt: 1 + r.Intn(100)}
	}
	if r.Intn(40) == 0 {
		e.Capacity = math.MaxInt
		e.Rules.Fees.Base = one(r, math.MaxInt, math.MaxInt-100, 1000)
	}
	return e
}

func anyWant(r *rand.Rand, nodes int) api.Want {
	w := api.Want{
		From:   r.Intn(nodes),
		To:     r.Intn(nodes),
		Amount: one(r, 1, 98, 100, 100, 100),
		Last:   one(r, 0, 10, 1000, api.MaxExpiry-12, api.MaxExpiry-1),
		Tick:   one(r, 100, 100, 101, 164, 5000, 0, -3),
		Most:   one(r, 0, 1, 2, 5, 1000, math.MaxInt),
	}
	for range r.Intn(3) {
		w.Avoid = append(w.Avoid, r.Intn(14))
	}
	switch r.Intn(60) {
	case 0:
		w.From = one(r, -1, 8, math.MinInt, math.MaxInt)
	case 1:
		w.Amount = one(r, 0, -1, math.MinInt)
	case 2:
		w.Last = one(r, -1, api.MaxExpiry+1)
	case 3:
		w.Most = one(r, -1, math.MinInt)
	}
	return w
}

// taken tells whether each node between hands on what comes to it, at a height that is neither too far nor too soon.
func taken(x api.Way) bool {
	for i := 1; i < len(x.Edges); i++ {
		r := x.Edges[i].Rules
		r.Far, r.Grace = api.MaxExpiry, 0
		h := api.Hop{Channel: x.Edges[i].Channel, Amount: x.Amounts[i], Expiry: x.Expiries[i]}
		height := max(0, x.Expiries[i]-1)
		if x.Expiries[i] > 0 && policy.Forward(r, h, x.Amounts[i-1], x.Expiries[i-1], height) != 0 {
			return false
		}
		if x.Amounts[i-1] > x.Edges[i-1].Capacity || x.Edges[i-1].To != x.Edges[i].From {
			return false
		}
	}
	return true
}

// P22.1 to P22.3: any calls, held against the document's words.
func TestAnyhow(t *testing.T) {
	r := rand.New(rand.NewSource(1))
	told := map[api.Errno]int{}
	var lengths [9]int
	choices := 0
	for range 1500 {
		nodes := 2 + r.Intn(5)
		g, p := New(), &plain{}
		for range 25 {
			e := anyEdge(r, nodes)
			switch r.Intn(8) {
			case 0:
				wantErr(t, "Remove", g.Remove(e.Channel, e.From), p.remove(e.Channel, e.From))
			case 1:
				amount, tick, good := 90+r.Intn(20), r.Intn(101), r.Intn(2) == 0
				wantErr(t, "Learn", g.Learn(e.Channel, e.From, amount, tick, good), p.learn(e.Channel, e.From, amount, tick, good))
			case 2:
				e.To, e.Rules.Delta = one(r, e.To, e.From, 8), one(r, 0, 1, 1000, 1001)
				fallthrough
			default:
				wantErr(t, "Set", g.Set(e), p.set(e))
			}
			x, ok := g.Get(e.Channel, e.From)
			if y, have := p.get(e.Channel, e.From); x != y || ok != have || g.Len() != len(p.edges) {
				t.Fatal("Get", x, ok, y, have)
			}
			if r.Intn(10) == 0 {
				g = g.Fork()
			}
		}
		for node := range nodes {
			if l := slices.Collect(g.From(node)); !slices.Equal(l, p.from(node)) {
				t.Fatal("From", node, l)
			}
		}
		for range 20 {
			w := anyWant(r, nodes)
			x, e := g.Find(w)
			y, want, ways := p.find(w)
			if e != want || !same(x, y) {
				t.Fatalf("Find(%+v) in %+v:\n%+v, %d, want\n%+v, %d", w, p.edges, x, e, y, want)
			}
			if e == api.OK && !taken(x) {
				t.Fatalf("what was found is not taken: %+v", x)
			}
			told[e]++
			lengths[len(x.Edges)]++
			if e == api.OK && ways > 1 {
				choices++
			}
		}
	}
	if told[api.OK] < 3000 || told[api.ErrNone] < 3000 || told[api.ErrArg] < 1000 || choices < 1000 || lengths[1] < 500 || lengths[2] < 500 || lengths[3] < 50 || lengths[4] < 10 {
		t.Error("what was told", told, choices, lengths)
	}
}

// P22.2, P22.3: all nodes with an edge to all others: 13699 steps each.
func TestDense(t *testing.T) {
	r := rand.New(rand.NewSource(2))
	longest := 0
	for range 8 {
		g, p := New(), &plain{}
		for from := range 8 {
			for to := range 8 {
				e := anyEdge(r, 8)
				e.Channel, e.From, e.To = 1+from*8+to, from, to
				// What is gone along more than once is cheap, so that long ways are at times the best ones.
				if to != (from+1)%8 {
					e.Past = api.Past{Bad: 1, BadAt: 95}
				} else {
					e.Past = api.Past{Good: 1000, GoodAt: 100}
					e.Rules.Fees, e.Capacity = api.Fees{Base: 1}, 1000
				}
				wantErr(t, "Set", g.Set(e), p.set(e))
			}
		}
		for range 3 {
			w := anyWant(r, 8)
			w.Last, w.Most, w.Tick = 10, 1000, 100
			x, e := g.Find(w)
			y, want, _ := p.find(w)
			if e != want || !same(x, y) || e == api.OK && !taken(x) {
				t.Fatalf("Find(%+v): %+v, %d, want %+v, %d", w, x, e, y, want)
			}
			longest = max(longest, len(x.Edges))
		}
	}
	if longest < 5 {
		t.Error("the longest one", longest)
	}
}

// P22.1: full graphs, held against the document's words.
func TestFullAnyhow(t *testing.T) {
	r := rand.New(rand.NewSource(3))
	told := map[api.Errno]int{}
	for range 30 {
		g, p := New(), &plain{}
		for range 400 {
			e := anyEdge(r, 8)
			e.Channel = 1 + r.Intn(20)
			if r.Intn(6) == 0 {
				wantErr(t, "Remove", g.Remove(e.Channel, e.From), p.remove(e.Channel, e.From))
				continue
			}
			want := p.set(e)
			wantErr(t, "Set", g.Set(e), want)
			told[want]++
		}
		var l []api.Edge
		for node := range 8 {
			l = append(l, p.from(node)...)
		}
		if !slices.Equal(all(g), l) || g.Len() != len(p.edges) {
			t.Fatal("what is there", all(g))
		}
	}
	if told[api.OK] < 1000 || told[api.ErrFull] < 100 {
		t.Error("what was told", told)
	}
}

// P22.3: a way that is found costs no more than any other that may be taken.
func TestNoneCostsLess(t *testing.T) {
	r := rand.New(rand.NewSource(4))
	for range 300 {
		g, p := New(), &plain{}
		for range 20 {
			e := anyEdge(r, 5)
			g.Set(e)
			p.set(e)
		}
		w := anyWant(r, 5)
		x, e := g.Find(w)
		if e != api.OK {
			continue
		}
		ways, _ := p.ways(w)
		for _, edges := range ways {
			if y, ok := plainLay(w, edges); ok && score.Less(y.Cost, x.Cost) {
				t.Fatal("one that costs less", x, y)
			}
		}
	}
}
