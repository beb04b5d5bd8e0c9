package graph

import (
	"math"
	"slices"
	"testing"

	"tollhouse/api"
	"tollhouse/score"
)

// rules is rules with such a Base, that may be.
func rules(base int) api.Rules {
	return api.Rules{Fees: api.Fees{Base: base}, Delta: 5, Grace: 1, Far: 100}
}

func edge(channel, from, to int) api.Edge {
	return api.Edge{Channel: channel, From: from, To: to, Capacity: 1000, Rules: rules(0)}
}

func wantErr(t *testing.T, name string, got, want api.Errno) {
	t.Helper()
	if got != want {
		t.Errorf("%s: %d, want %d", name, got, want)
	}
}

// with is a graph with these edges.
func with(t *testing.T, edges ...api.Edge) *Graph {
	t.Helper()
	g := New()
	for _, e := range edges {
		if errno := g.Set(e); errno != api.OK {
			t.Fatalf("Set(%+v): %d", e, errno)
		}
	}
	return g
}

// all is all edges of g, by their From.
func all(g *Graph) []api.Edge {
	var l []api.Edge
	for node := range api.MaxNodes {
		l = slices.AppendSeq(l, g.From(node))
	}
	return l
}

// P22.1: which edges may be, at all edges.
func TestMayEdge(t *testing.T) {
	for _, c := range []struct {
		name string
		set  func(e *api.Edge, n int)
		may  []int
		not  []int
	}{
		{"Channel", func(e *api.Edge, n int) { e.Channel = n }, []int{1, 2, 65535}, []int{0, -1, 65536, math.MinInt, math.MaxInt, 1<<32 + 1}},
		{"From", func(e *api.Edge, n int) { e.From = n }, []int{0, 1, 6}, []int{7, 8, -1, math.MinInt, math.MaxInt}},
		{"To", func(e *api.Edge, n int) { e.To = n }, []int{1, 2, 7}, []int{0, 8, -1, math.MinInt, math.MaxInt}},
		{"Capacity", func(e *api.Edge, n int) { e.Capacity = n }, []int{0, 1, math.MaxInt}, []int{-1, math.MinInt}},
		{"Base", func(e *api.Edge, n int) { e.Rules.Fees.Base = n }, []int{0, math.MaxInt}, []int{-1, math.MinInt}},
		{"Rate", func(e *api.Edge, n int) { e.Rules.Fees.Rate = n }, []int{0, 1000000}, []int{-1, 1000001}},
		{"Delta", func(e *api.Edge, n int) { e.Rules.Delta = n }, []int{1, 1000}, []int{0, 1001, -1}},
		{"Grace", func(e *api.Edge, n int) { e.Rules.Grace = n }, []int{0, 1000}, []int{-1, 1001}},
		{"Far", func(e *api.Edge, n int) { e.Rules.Far = n }, []int{1, api.MaxExpiry}, []int{0, -1, api.MaxExpiry + 1}},
		{"Past", func(e *api.Edge, n int) { e.Past = api.Past{Good: n, GoodAt: n, Bad: n, BadAt: n} }, []int{0, -1, math.MinInt, math.MaxInt}, nil},
	} {
		try := func(n int, want api.Errno) {
			e := edge(3, 0, 7)
			c.set(&e, n)
			g := New()
			wantErr(t, c.name, g.Set(e), want)
			got, ok := g.Get(e.Channel, e.From)
			if want == api.OK && (!ok || got != e || g.Len() != 1) || want != api.OK && (ok || got != api.Edge{} || g.Len() != 0) {
				t.Errorf("%s %d: %+v, %v", c.name, n, got, ok)
			}
		}
		for _, n := range c.may {
			try(n, api.OK)
		}
		for _, n := range c.not {
			try(n, api.ErrArg)
		}
	}
	wantErr(t, "nothing", New().Set(api.Edge{}), api.ErrArg)
}

// P22.1: an edge takes the place of one of its Channel and From, and of no other.
func TestSet(t *testing.T) {
	g := with(t, edge(1, 0, 1), edge(1, 1, 0), edge(2, 0, 1))
	e := api.Edge{Channel: 1, From: 0, To: 5, Capacity: 7, Rules: rules(9), Past: api.Past{Good: 3, GoodAt: 4}}
	wantErr(t, "Set", g.Set(e), api.OK)
	if !slices.Equal(all(g), []api.Edge{e, edge(2, 0, 1), edge(1, 1, 0)}) || g.Len() != 3 {
		t.Error("Set", all(g))
	}
	e.To = 0
	wantErr(t, "Set of what may not be", g.Set(e), api.ErrArg)
	if got, ok := g.Get(1, 0); !ok || got.To != 5 {
		t.Error("what is refused changes nothing", got)
	}
}

// full is a graph with as many edges as there may be: the Channels 10 to 73, from the node 0 or 1.
func full(t *testing.T) *Graph {
	t.Helper()
	var l []api.Edge
	for i := range 64 {
		l = append(l, edge(10+i, i%2, 2))
	}
	return with(t, l...)
}

// P22.1: a full graph.
func TestFull(t *testing.T) {
	g := full(t)
	was := all(g)
	if g.Len() != 64 || len(was) != 64 {
		t.Fatal("Len", g.Len())
	}
	for _, e := range []api.Edge{edge(1, 0, 1), edge(100, 0, 1), edge(10, 1, 2), edge(11, 0, 2), edge(10, 7, 0)} {
		wantErr(t, "one more", g.Set(e), api.ErrFull)
	}
	wantErr(t, "one more that may not be", g.Set(edge(1, 0, 0)), api.ErrArg)
	if !slices.Equal(all(g), was) {
		t.Error("what is refused changes nothing")
	}
	wantErr(t, "one in the place of another", g.Set(edge(10, 0, 5)), api.OK)
	if e, _ := g.Get(10, 0); e.To != 5 || g.Len() != 64 {
		t.Error("in the place of another", e)
	}
	wantErr(t, "Remove", g.Remove(73, 1), api.OK)
	wantErr(t, "again one more", g.Set(edge(1, 0, 1)), api.OK)
	wantErr(t, "and another", g.Set(edge(2, 0, 1)), api.ErrFull)
	if l := slices.Collect(g.From(0)); g.Len() != 64 || l[0] != edge(1, 0, 1) {
		t.Error("again one more", l[0])
	}
}

// P22.1: what is gone, what is there.
func TestRemove(t *testing.T) {
	g := with(t, edge(1, 0, 1), edge(1, 1, 0), edge(2, 0, 1))
	for _, at := range [][2]int{{0, 0}, {1, 2}, {2, 1}, {3, 0}, {-1, 0}, {1, -1}, {math.MaxInt, math.MinInt}, {9, 9}} {
		wantErr(t, "Remove of nothing", g.Remove(at[0], at[1]), api.ErrNone)
		wantErr(t, "Learn of nothing", g.Learn(at[0], at[1], 5, 5, true), api.ErrNone)
		if e, ok := g.Get(at[0], at[1]); ok || e != (api.Edge{}) {
			t.Error("Get of nothing", at, e, ok)
		}
	}
	if g.Len() != 3 {
		t.Error("Len", g.Len())
	}
	wantErr(t, "Remove", g.Remove(1, 0), api.OK)
	wantErr(t, "Remove again", g.Remove(1, 0), api.ErrNone)
	if _, ok := g.Get(1, 0); ok || !slices.Equal(all(g), []api.Edge{edge(2, 0, 1), edge(1, 1, 0)}) {
		t.Error("Remove", all(g))
	}
	wantErr(t, "Remove", g.Remove(2, 0), api.OK)
	wantErr(t, "Remove", g.Remove(1, 1), api.OK)
	if g.Len() != 0 || len(all(g)) != 0 {
		t.Error("nothing is left", all(g))
	}
	wantErr(t, "Set behind all", g.Set(edge(1, 0, 1)), api.OK)
	if g.Len() != 1 {
		t.Error("Len", g.Len())
	}
}

// P22.1: what is learnt of an edge, and of no other.
func TestLearn(t *testing.T) {
	g := with(t, edge(1, 0, 1), edge(1, 1, 0), edge(2, 0, 1))
	var p api.Past
	for _, c := range []struct {
		amount, tick int
		good         bool
	}{{50, 3, true}, {40, 4, false}, {0, 5, true}, {60, 0, false}, {-1, -1, true}, {45, 9, true}, {math.MaxInt, math.MaxInt, false}} {
		wantErr(t, "Learn", g.Learn(1, 1, c.amount, c.tick, c.good), api.OK)
		p = score.Learn(p, c.amount, c.tick, c.good)
		e := edge(1, 1, 0)
		e.Past = p
		if !slices.Equal(all(g), []api.Edge{edge(1, 0, 1), edge(2, 0, 1), e}) {
			t.Error("Learn", all(g))
		}
	}
	if p == (api.Past{}) {
		t.Error("nothing was learnt")
	}
}

// P22.1: From rises by the Channel, whatever the order in which they were set; other nodes have none.
func TestFrom(t *testing.T) {
	want := []api.Edge{edge(1, 3, 0), edge(2, 3, 1), edge(9, 3, 0), edge(10, 3, 0), edge(300, 3, 7), edge(65535, 3, 4)}
	others := []api.Edge{edge(1, 0, 3), edge(2, 4, 3), edge(5, 0, 3), edge(65535, 4, 3)}
	for _, order := range [][]int{{0, 1, 2, 3, 4, 5}, {5, 4, 3, 2, 1, 0}, {3, 5, 1, 0, 4, 2}} {
		g := New()
		for i, k := range order {
			if i < len(others) {
				g.Set(others[i])
			}
			g.Set(want[k])
		}
		if got := slices.Collect(g.From(3)); !slices.Equal(got, want) {
			t.Error("From", got)
		}
		if got := slices.Collect(g.From(4)); !slices.Equal(got, []api.Edge{others[1], others[3]}) {
			t.Error("From another", got)
		}
		for _, node := range []int{1, 7, 8, -1, math.MinInt, math.MaxInt} {
			if got := slices.Collect(g.From(node)); len(got) != 0 {
				t.Error("From nothing", node, got)
			}
		}
	}
}

// R5: an iterator may be stopped, begins anew, and is as the graph is when it is ranged over.
func TestIterator(t *testing.T) {
	g := with(t, edge(1, 0, 1), edge(2, 0, 1), edge(3, 0, 1))
	from := g.From(0)
	for stop := range 5 {
		n := 0
		for range from {
			if n == stop {
				break
			}
			n++
		}
		if n != min(stop, 3) {
			t.Error("stopped behind", stop, n)
		}
	}
	g.Remove(2, 0)
	g.Set(edge(7, 0, 1))
	g.Learn(3, 0, 5, 5, true)
	learnt := edge(3, 0, 1)
	learnt.Past = api.Past{Good: 5, GoodAt: 5}
	if got := slices.Collect(from); !slices.Equal(got, []api.Edge{edge(1, 0, 1), learnt, edge(7, 0, 1)}) {
		t.Error("ranged over again", got)
	}
	pairs := 0
	for range from {
		for range from {
			pairs++
		}
	}
	if pairs != 9 {
		t.Error("pairs", pairs)
	}
}

// P22.1, R3: a fork is the same, and goes its own way.
func TestFork(t *testing.T) {
	for _, g := range []*Graph{New(), with(t, edge(1, 0, 1), edge(2, 0, 1), edge(1, 1, 0)), full(t)} {
		was := all(g)
		f := g.Fork()
		if f == g || !slices.Equal(all(f), was) || f.Len() != g.Len() {
			t.Error("Fork", all(f))
		}
		change := func(g *Graph) {
			g.Remove(1, 1)
			g.Remove(10, 0)
			g.Learn(1, 0, 5, 5, true)
			g.Learn(12, 0, 5, 5, true)
			g.Set(edge(2, 0, 3))
			g.Set(edge(4, 4, 3))
		}
		change(f)
		if !slices.Equal(all(g), was) || slices.Equal(all(f), was) {
			t.Error("a fork shares something", all(g))
		}
		h := g.Fork()
		change(g)
		if !slices.Equal(all(h), was) || !slices.Equal(all(g), all(f)) {
			t.Error("a fork is shared", all(h))
		}
		wantErr(t, "Set in a fork", New().Fork().Set(edge(1, 0, 1)), api.OK)
	}
}

// P22.2: a nil Graph, and one that no call made.
func TestClosed(t *testing.T) {
	for _, g := range []*Graph{nil, {}} {
		wantErr(t, "Set", g.Set(edge(1, 0, 1)), api.ErrClosed)
		wantErr(t, "Set of what may not be", g.Set(api.Edge{}), api.ErrClosed)
		wantErr(t, "Remove", g.Remove(1, 0), api.ErrClosed)
		wantErr(t, "Learn", g.Learn(1, 0, 1, 1, true), api.ErrClosed)
		if e, ok := g.Get(1, 0); ok || e != (api.Edge{}) {
			t.Error("Get", e, ok)
		}
		for e := range g.From(0) {
			t.Error("From", e)
		}
		if g.Len() != 0 || g.Fork() != nil {
			t.Error("Len, Fork", g.Len(), g.Fork())
		}
		for _, w := range []api.Want{{To: 1, Amount: 1}, {}} {
			x, e := g.Find(w)
			wantErr(t, "Find", e, api.ErrClosed)
			if !same(x, api.Way{}) {
				t.Error("Find", x)
			}
		}
	}
}

// P22.1: a new graph is empty.
func TestNew(t *testing.T) {
	g, h := New(), New()
	if g.Len() != 0 || len(all(g)) != 0 {
		t.Error("New", all(g))
	}
	g.Set(edge(1, 0, 1))
	if h.Len() != 0 || g.Len() != 1 {
		t.Error("two graphs share something")
	}
}
