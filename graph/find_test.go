package graph

import (
	"math"
	"slices"
	"testing"

	"tollhouse/api"
)

// wanted is a way that is wanted from 0 to another node, for nothing in particular.
func wanted(to, amount int) api.Want {
	return api.Want{From: 0, To: to, Amount: amount, Last: 10, Tick: 1, Most: math.MaxInt}
}

// found is the way that g finds.
func found(t *testing.T, name string, g *Graph, w api.Want) api.Way {
	t.Helper()
	x, e := g.Find(w)
	wantErr(t, name, e, api.OK)
	return x
}

// wantNo asks for an error, and nothing beside it.
func wantNo(t *testing.T, name string, g *Graph, w api.Want, want api.Errno) {
	t.Helper()
	x, e := g.Find(w)
	wantErr(t, name, e, want)
	if len(x.Edges) != 0 || len(x.Amounts) != 0 || len(x.Expiries) != 0 || x.Fee != 0 || x.Cost != 0 {
		t.Errorf("%s: %+v beside an error", name, x)
	}
}

// wantWay asks for a way along these Channels.
func wantWay(t *testing.T, name string, g *Graph, w api.Want, channels ...int) {
	t.Helper()
	if x := found(t, name, g, w); !slices.Equal(channelsOf(x.Edges), channels) {
		t.Errorf("%s: %v, want %v", name, channelsOf(x.Edges), channels)
	}
}

// sure is e, and that any amount went through just now: its chance is 1.
func sure(e api.Edge) api.Edge {
	e.Past = api.Past{Good: math.MaxInt, GoodAt: 1}
	return e
}

// P22.2: the document's example.
func TestExample(t *testing.T) {
	dear := edge(1, 0, 1)
	dear.Rules = rules(1000)
	g := with(t, dear, edge(2, 0, 2), edge(3, 2, 1))
	x := found(t, "the example", g, wanted(1, 100))
	if !slices.Equal(channelsOf(x.Edges), []int{1}) || x.Fee != 0 || !slices.Equal(x.Amounts, []int{100}) || !slices.Equal(x.Expiries, []int{10}) {
		t.Error("the example", x)
	}
}

// P22.2: a way of three edges, by hand.
func TestWay(t *testing.T) {
	a, b, c := edge(7, 0, 3), edge(2, 3, 1), edge(5, 1, 6)
	a.Rules = api.Rules{Fees: api.Fees{Base: 900, Rate: 900000}, Delta: 900, Far: 1}
	b.Rules = api.Rules{Fees: api.Fees{Base: 10, Rate: 500000}, Delta: 20, Far: 1}
	c.Rules = api.Rules{Fees: api.Fees{Base: 3, Rate: 10000}, Delta: 7, Far: 1}
	// Into the last one go 100, ahead of it 100 + 3 + 1, ahead of that 104 + 10 + 52.
	a.Capacity, b.Capacity, c.Capacity = 331, 207, 399
	g := with(t, a, b, c)
	x := found(t, "three", g, wanted(6, 100))
	if !slices.Equal(x.Edges, []api.Edge{a, b, c}) || !slices.Equal(x.Amounts, []int{166, 104, 100}) || !slices.Equal(x.Expiries, []int{37, 17, 10}) || x.Fee != 66 {
		t.Errorf("three: %+v", x)
	}
	// Chances: 166 / 332, 104 / 208, 300 / 400. The first one's own fees and Delta do not count.
	if want := 200 + (62 + 200.0 + 200) + (4 + 70.0 + 100/0.75); x.Cost != want {
		t.Errorf("three: %v, want %v", x.Cost, want)
	}
	wantNo(t, "back", g, api.Want{From: 6, To: 0, Amount: 100, Most: math.MaxInt}, api.ErrNone)
}

// P22.2: what may not be wanted; and that goes ahead of there being no way.
func TestMayWant(t *testing.T) {
	for _, c := range []struct {
		name string
		set  func(w *api.Want, n int)
		may  []int
		not  []int
	}{
		{"From", func(w *api.Want, n int) { w.From = n }, []int{0, 1, 6}, []int{7, 8, -1, math.MinInt, math.MaxInt}},
		{"To", func(w *api.Want, n int) { w.To = n }, []int{1, 6, 7}, []int{0, 8, -1, math.MinInt, math.MaxInt}},
		{"Amount", func(w *api.Want, n int) { w.Amount = n }, []int{1, 2, math.MaxInt}, []int{0, -1, math.MinInt}},
		{"Last", func(w *api.Want, n int) { w.Last = n }, []int{0, 1, api.MaxExpiry}, []int{-1, api.MaxExpiry + 1, math.MinInt, math.MaxInt}},
		{"Most", func(w *api.Want, n int) { w.Most = n }, []int{0, 1, math.MaxInt}, []int{-1, math.MinInt}},
		{"Tick", func(w *api.Want, n int) { w.Tick = n }, []int{0, -1, math.MinInt, math.MaxInt}, nil},
	} {
		for _, n := range c.may {
			w := wanted(7, 100)
			c.set(&w, n)
			wantNo(t, c.name+" without a way", New(), w, api.ErrNone)
			e := sure(edge(1, w.From, w.To))
			e.Capacity = math.MaxInt
			wantWay(t, c.name, with(t, e), w, 1)
		}
		for _, n := range c.not {
			w := wanted(7, 100)
			c.set(&w, n)
			wantNo(t, c.name+" without a way", New(), w, api.ErrArg)
			wantNo(t, c.name, with(t, edge(1, 0, 7), edge(2, 7, 0)), w, api.ErrArg)
		}
	}
	wantNo(t, "nothing", New(), api.Want{}, api.ErrArg)
}

// row is edges from 0 to 1, 1 to 2, .., each with a Base of 10 and a Delta of 5, the Channels 1, 2, ..
func row(n int) []api.Edge {
	var l []api.Edge
	for i := range n {
		e := edge(1+i, i, i+1)
		e.Rules = rules(10)
		l = append(l, e)
	}
	return l
}

// P22.2: into no channel goes more than its Capacity.
func TestCapacity(t *testing.T) {
	// Into these go 120, 110, 100.
	for i, into := range []int{120, 110, 100} {
		l := row(3)
		l[i] = sure(l[i])
		l[i].Capacity = into
		wantWay(t, "just enough room", with(t, l...), wanted(3, 100), 1, 2, 3)
		l[i].Capacity--
		wantNo(t, "too little room", with(t, l...), wanted(3, 100), api.ErrNone)
		l[i].Capacity = 0
		wantNo(t, "no room", with(t, l...), wanted(3, 100), api.ErrNone)
	}
}

// P22.2: the fees are at most Most; the first edge's are not counted.
func TestMost(t *testing.T) {
	for n := 1; n <= 7; n++ {
		g := with(t, row(n)...)
		w := wanted(n, 100)
		w.Most = 10 * (n - 1)
		if x := found(t, "just cheap enough", g, w); x.Fee != w.Most || x.Amounts[0] != 100+w.Most || len(x.Edges) != n {
			t.Error("just cheap enough", x)
		}
		w.Most--
		if n > 1 {
			wantNo(t, "too dear", g, w, api.ErrNone)
		}
	}
}

// P22.2: no expiry is beyond MaxExpiry; the first edge's Delta is not counted.
func TestExpiry(t *testing.T) {
	for n := 1; n <= 7; n++ {
		g := with(t, row(n)...)
		w := wanted(n, 100)
		w.Last = api.MaxExpiry - 5*(n-1)
		if x := found(t, "just soon enough", g, w); x.Expiries[0] != api.MaxExpiry || x.Expiries[n-1] != w.Last {
			t.Error("just soon enough", x)
		}
		w.Last++
		if n > 1 {
			wantNo(t, "too late", g, w, api.ErrNone)
		}
	}
}

// P22.2: what goes into a channel does not run over.
func TestOver(t *testing.T) {
	l := row(3)
	for i := range l {
		l[i] = sure(l[i])
		l[i].Capacity = math.MaxInt
	}
	wantWay(t, "just not over", with(t, l...), wanted(3, math.MaxInt-20), 1, 2, 3)
	wantNo(t, "just over", with(t, l...), wanted(3, math.MaxInt-19), api.ErrNone)
	wantNo(t, "over at the last one", with(t, l...), wanted(3, math.MaxInt), api.ErrNone)
	l[1].Rules.Fees = api.Fees{Base: math.MaxInt, Rate: 1000000}
	wantNo(t, "fees that run over", with(t, l...), wanted(3, 1), api.ErrNone)
	l[0].Rules.Fees = api.Fees{Base: math.MaxInt, Rate: 1000000}
	wantWay(t, "the first one's fees", with(t, l...), wanted(1, math.MaxInt), 1)
}

// P22.2: a cost without an end is no way; with another way that is taken.
func TestNoChance(t *testing.T) {
	for i := range 3 {
		l := row(3)
		l[i].Past = api.Past{Bad: 50, BadAt: 1}
		wantNo(t, "what failed just now", with(t, l...), wanted(3, 100), api.ErrNone)
		w := wanted(3, 100)
		w.Tick = 2
		wantWay(t, "what failed a while ago", with(t, l...), w, 1, 2, 3)
		around := edge(9, i, i+1)
		around.Rules = rules(800)
		wantWay(t, "another way", with(t, append(l, around)...), wanted(3, 100), slices.Replace([]int{1, 2, 3}, i, i+1, 9)...)
	}
	// 2^53 and 1 are 2^53, as floats.
	e := edge(1, 0, 1)
	e.Capacity = 1 << 53
	wantNo(t, "a chance that is rounded to nothing", with(t, e), wanted(1, 1<<53), api.ErrNone)
	wantWay(t, "a chance", with(t, e), wanted(1, 1<<53-1), 1)
}

// P22.2: the cheapest way, whatever its number of edges and its Channels.
func TestCheapest(t *testing.T) {
	dear, cheap := sure(edge(1, 0, 1)), sure(edge(2, 0, 1))
	g := with(t, sure(edge(3, 1, 2)), dear, cheap)
	wantWay(t, "both are like", g, wanted(2, 100), 1, 3)
	dear.Past = api.Past{}
	g.Set(dear)
	wantWay(t, "the other one is likelier", g, wanted(2, 100), 2, 3)
	// Directly, with a chance of 1 / 4: 400. Around, of 100 + 100 + 10 for each block: 250 with a Delta of 5.
	direct := edge(1, 0, 2)
	direct.Capacity = 3
	g = with(t, direct, sure(edge(4, 0, 1)), sure(edge(5, 1, 2)))
	if x := found(t, "around", g, wanted(2, 3)); !slices.Equal(channelsOf(x.Edges), []int{4, 5}) || x.Cost != 250 {
		t.Error("around", x)
	}
	wantWay(t, "directly, as less is likelier", g, wanted(2, 1), 1)
	// A fee of 149 makes it 399, one of 150 as dear, one of 151 dearer.
	for base, want := range map[int][]int{149: {4, 5}, 150: {1}, 151: {1}} {
		e := sure(edge(5, 1, 2))
		e.Rules = rules(base)
		g.Set(e)
		wantWay(t, "fees", g, wanted(2, 3), want...)
	}
}

// P22.2: of those that cost the same, the one of fewer edges; of these, by the Channels, in order.
func TestLike(t *testing.T) {
	slow := sure(edge(2, 1, 2))
	slow.Rules.Delta = 20
	// Each costs 400: the chance of all that there is room for is 1 / 4.
	for _, channel := range []int{1, 9} {
		direct := edge(channel, 0, 2)
		direct.Capacity = 3
		around := sure(edge(3, 0, 1))
		g := with(t, direct, around, slow)
		x := found(t, "fewer edges", g, wanted(2, 3))
		w := wanted(2, 3)
		w.Avoid = []int{channel}
		y := found(t, "more edges", g, w)
		if x.Cost != 400 || y.Cost != 400 || len(x.Edges) != 1 || len(y.Edges) != 2 {
			t.Error("fewer edges", x, y)
		}
	}
	g := with(t, edge(2, 0, 1), edge(9, 1, 3), edge(3, 0, 2), edge(4, 2, 3))
	wantWay(t, "the first Channel", g, wanted(3, 100), 2, 9)
	g = with(t, edge(2, 0, 1), edge(9, 1, 3), edge(8, 1, 3), edge(7, 1, 3))
	wantWay(t, "the second Channel", g, wanted(3, 100), 2, 7)
	g = with(t, edge(300, 0, 1), edge(29, 0, 1), edge(1000, 0, 1))
	wantWay(t, "the lowest Channel", g, wanted(1, 100), 29)
	// One Channel may be of several edges.
	g = with(t, edge(2, 0, 1), edge(2, 1, 2), edge(2, 2, 3))
	wantWay(t, "one Channel", g, wanted(3, 100), 2, 2, 2)
}

// P22.2: the Channels of Avoid are not gone along.
func TestAvoid(t *testing.T) {
	g := with(t, edge(1, 0, 1), edge(2, 0, 1), edge(3, 0, 1), edge(2, 1, 2), edge(4, 1, 2))
	for _, c := range []struct {
		avoid []int
		want  []int
	}{
		{nil, []int{1, 2}}, {[]int{}, []int{1, 2}}, {[]int{1}, []int{2, 2}}, {[]int{2}, []int{1, 4}}, {[]int{1, 2}, []int{3, 4}}, {[]int{2, 1, 2, 1}, []int{3, 4}},
		{[]int{3, 4}, []int{1, 2}}, {[]int{0, -1, 65536, 65537, 1<<32 + 1, math.MinInt, math.MaxInt, 77}, []int{1, 2}}, {[]int{77, 1, -5, 4}, []int{2, 2}},
	} {
		w := wanted(2, 100)
		w.Avoid = c.avoid
		wantWay(t, "Avoid", g, w, c.want...)
	}
	w := wanted(2, 100)
	for _, w.Avoid = range [][]int{{2, 4}, {3, 2, 1}, {4, 3, 2, 1}} {
		wantNo(t, "Avoid all", g, w, api.ErrNone)
	}
	// As long as one likes.
	long := make([]int, 1<<20)
	for i := range long {
		long[i] = 5 + i
	}
	w.Avoid = append(long, 1)
	wantWay(t, "a long Avoid", g, w, 2, 2)
}

// P22.2: no node twice: neither From nor To, nor another; and a way through all nodes.
func TestNodes(t *testing.T) {
	back := func(channel, from, to int) api.Edge { return sure(edge(channel, from, to)) }
	l := row(7)
	wantWay(t, "all nodes", with(t, l...), wanted(7, 100), 1, 2, 3, 4, 5, 6, 7)
	for _, e := range []api.Edge{back(50, 3, 0), back(50, 3, 1), back(50, 6, 0), back(50, 6, 5), back(50, 7, 0), back(50, 7, 3)} {
		wantWay(t, "a way back", with(t, append(slices.Clone(l), e)...), wanted(7, 100), 1, 2, 3, 4, 5, 6, 7)
	}
	// Without the step from 3 to 4 there is but what goes to 7, and comes back from there.
	g := with(t, append(slices.Clone(l), edge(51, 3, 7), edge(52, 7, 4))...)
	g.Remove(4, 3)
	wantWay(t, "to 7", g, wanted(7, 100), 1, 2, 3, 51)
	wantWay(t, "through 7", g, wanted(5, 100), 1, 2, 3, 51, 52, 5)
	g.Remove(51, 3)
	wantNo(t, "nowhere", g, wanted(5, 100), api.ErrNone)
}

// R3: answers are new memory, and what is handed in is not changed; a find changes nothing.
func TestMemory(t *testing.T) {
	g := with(t, row(4)...)
	was := all(g)
	room := []int{9, 8, 1, 2}
	w := wanted(4, 100)
	w.Avoid = room[:2]
	x, y := found(t, "x", g, w), found(t, "y", g, w)
	if !same(x, y) || !slices.Equal(room, []int{9, 8, 1, 2}) || !slices.Equal(all(g), was) {
		t.Error("a find changed something", x, y, room)
	}
	for i := range x.Edges {
		x.Edges[i], x.Amounts[i], x.Expiries[i] = api.Edge{}, -1, -1
	}
	_ = append(x.Edges, api.Edge{})
	_, _ = append(x.Amounts, -1), append(x.Expiries, -1)
	if !slices.Equal(y.Amounts, []int{130, 120, 110, 100}) || !slices.Equal(y.Expiries, []int{25, 20, 15, 10}) || !slices.Equal(y.Edges, row(4)) || !slices.Equal(all(g), was) {
		t.Error("something is shared", y, all(g))
	}
	if z := found(t, "z", g, w); !same(z, y) {
		t.Error("something is kept", z)
	}
}
