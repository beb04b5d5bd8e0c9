package resolver

import (
	"math"
	"math/rand"
	"testing"

	"tollhouse/api"
	"tollhouse/chain"
	"tollhouse/channel"
	"tollhouse/deal"
	"tollhouse/mac"
	"tollhouse/secrets"
)

// busyPair is a pair of which both have Htlcs, and had some commitments.
func busyPair(t *testing.T) *pair {
	t.Helper()
	p := newPair(t, terms(), [2][32]byte{seedOf(0), seedOf(1)})
	for n := range 3 {
		p.add(n%2, 50+n, 20+n, n)
		p.agree()
	}
	return p
}

// commit is the commitment of i's with that number and view.
func (p *pair) commit(i, number int, v api.View) api.Tx {
	p.t.Helper()
	x, e := deal.Commit(p.terms, nodes[i], secrets.Point(p.seeds[i], number), v)
	if e != api.OK {
		p.t.Fatal("Commit", e)
	}
	return x
}

func (p *pair) wantSort(name string, i int, x api.Tx, at int, want api.Closed) {
	p.t.Helper()
	want.Tx, want.At = x, at
	if z := Sort(p.c[i], x, at); !sameClosed(z, want) {
		p.t.Fatalf("%s: %v, want %v", name, z, want)
	}
}

func strange() api.Closed { return api.Closed{Kind: api.ClosedStrange} }

// askAll asks, of either of the two, for all commitments that both ever had, and for what is pending; it counts what it saw.
func (p *pair) askAll(seen map[string]int) {
	p.t.Helper()
	for i, c := range p.c {
		own, view := c.Own()
		for n, x := range p.had[i] {
			want := strange()
			if n == own.Number {
				want = api.Closed{Kind: api.ClosedOwn, View: view}
			}
			p.wantSort("an own one", i, x, n, want)
		}
		others, othersView := c.Others()
		next, nextView, pending := c.Pending()
		if pending {
			seen["pending"]++
			p.wantSort("the pending one", i, p.commit(1-i, next.Number, nextView), 9, api.Closed{Kind: api.ClosedOther, View: nextView})
		}
		for n, x := range p.had[1-i] {
			switch {
			case n < others.Number:
				seen["revoked"]++
				p.wantSort("a revoked one", i, x, n, api.Closed{Kind: api.ClosedRevoked, Secret: secrets.At(p.seeds[1-i], n)})
			case n == others.Number:
				seen["other"]++
				p.wantSort("the other one's", i, x, n, api.Closed{Kind: api.ClosedOther, View: othersView})
			case pending && n == next.Number:
				seen["other pending"]++
				p.wantSort("the pending one that it has", i, x, n, api.Closed{Kind: api.ClosedOther, View: nextView})
			default:
				p.t.Fatal("a commitment that nobody signed", n, others.Number)
			}
		}
	}
}

// P17.1: whatever the two did, each commitment that either ever had is sorted.
func TestSortWalk(t *testing.T) {
	seen := map[string]int{}
	for seed := range 25 {
		r := rand.New(rand.NewSource(int64(seed)))
		p := newPair(t, terms(), [2][32]byte{seedOf(0), seedOf(1)})
		for n := range 120 {
			p.step(r, n)
			if n%8 == 0 {
				p.askAll(seen)
			}
		}
	}
	for _, name := range []string{"pending", "revoked", "other", "other pending"} {
		if seen[name] < 20 {
			t.Error(name, "was seen", seen[name], "times")
		}
	}
}

// P17.1: numbers are what counts: tags are no part of them, and are told as they were handed in.
func TestSortTags(t *testing.T) {
	p := busyPair(t)
	for i := range p.c {
		x, _ := p.c[i].Close()
		x.Ins[0].TagA, x.Ins[0].TagB, x.Ins[0].Secret, x.Ins[0].Path = [32]byte{1}, [32]byte{2}, [32]byte{3}, 4
		_, v := p.c[i].Own()
		p.wantSort("own", i, x, -5, api.Closed{Kind: api.ClosedOwn, View: v})
		p.wantSort("the other one's", 1-i, x, math.MaxInt, api.Closed{Kind: api.ClosedOther, View: v})
		old := p.had[i][1]
		old.Ins[0].TagA = [32]byte{1}
		p.wantSort("a revoked one", 1-i, old, math.MinInt, api.Closed{Kind: api.ClosedRevoked, Secret: secrets.At(p.seeds[i], 1)})
	}
}

// P17.1: what is nearly a commitment is a strange one.
func TestSortStrange(t *testing.T) {
	p := busyPair(t)
	changes := map[string]func(x *api.Tx){
		"nothing":         func(x *api.Tx) { *x = api.Tx{} },
		"no outputs":      func(x *api.Tx) { x.Outs = nil },
		"no paths":        func(x *api.Tx) { x.Outs[0].Paths = nil },
		"one path":        func(x *api.Tx) { x.Outs[0].Paths = x.Outs[0].Paths[:1] },
		"a third path":    func(x *api.Tx) { x.Outs[0].Paths = append(x.Outs[0].Paths, api.Path{}) },
		"another amount":  func(x *api.Tx) { x.Outs[0].Amount++ },
		"another Htlc":    func(x *api.Tx) { x.Outs[2].Amount++ },
		"one Htlc less":   func(x *api.Tx) { x.Outs = x.Outs[:len(x.Outs)-1] },
		"another money":   func(x *api.Tx) { x.Ins[0].Ref.Out++ },
		"no input":        func(x *api.Tx) { x.Ins = nil },
		"a point of zero": func(x *api.Tx) { x.Outs[0].Paths[1].Hash = [32]byte{} },
		"another delay":   func(x *api.Tx) { x.Outs[0].Paths[0].Delay++ },
	}
	for name, change := range changes {
		for i := range p.c {
			for k := range p.c {
				x, _ := p.c[k].Close()
				change(&x)
				p.wantSort(name, i, x, 7, strange())
			}
		}
	}
}

// P17.1: the point of the other one's commitment is the one that the transaction has, in all its outputs.
func TestSortPoint(t *testing.T) {
	p := busyPair(t)
	_, v := p.c[0].Others()
	point := mac.Hash([32]byte{200})
	x, _ := deal.Commit(p.terms, nodes[1], point, v)
	p.wantSort("another point", 0, x, 3, api.Closed{Kind: api.ClosedOther, View: v})
	x.Outs[2].Paths[2].Hash[0]++
	p.wantSort("two points", 0, x, 3, strange())
	x, _ = deal.Commit(p.terms, nodes[0], point, v)
	p.wantSort("another holder", 0, x, 3, strange())
}

// P17.1: a revoked point tells what it is, whatever else the transaction has.
func TestSortRevokedFirst(t *testing.T) {
	p := busyPair(t)
	told := secrets.At(p.seeds[1], 1)
	_, v := p.c[0].Others()
	x, _ := deal.Commit(p.terms, nodes[1], mac.Hash(told), v)
	p.wantSort("the other one's view with a revoked point", 0, x, 3, api.Closed{Kind: api.ClosedRevoked, Secret: told})
	y := api.Tx{Outs: []api.Out{{Paths: []api.Path{{}, {Hash: mac.Hash(told)}}}}}
	p.wantSort("nothing but a revoked point", 0, y, 3, api.Closed{Kind: api.ClosedRevoked, Secret: told})
	y.Outs[0].Paths[0], y.Outs[0].Paths[1] = y.Outs[0].Paths[1], y.Outs[0].Paths[0]
	p.wantSort("in the first path", 0, y, 3, strange())
	y.Outs = []api.Out{{}, {Paths: []api.Path{{}, {Hash: mac.Hash(told)}}}}
	p.wantSort("in the second output", 0, y, 3, strange())
	s, _ := p.c[0].Others()
	y.Outs = []api.Out{{Paths: []api.Path{{}, {Hash: secrets.Point(p.seeds[1], s.Number)}}}}
	p.wantSort("a point that was not taken back", 0, y, 3, strange())
}

// P17.1: one's commitment is one's own, even if its point is that of a secret that the other one told.
func TestSortOwnFirst(t *testing.T) {
	p := newPair(t, terms(), [2][32]byte{seedOf(0), seedOf(0)})
	p.add(0, 50, 20, 1)
	p.sign(0)
	p.calm()
	if _, ok := p.c[0].Revoked(0); !ok {
		t.Fatal("nothing was told")
	}
	own, v := p.c[0].Own()
	if own.Number != 0 {
		t.Fatal("the commitment has the number", own.Number)
	}
	x, _ := p.c[0].Close()
	p.wantSort("own", 0, x, 3, api.Closed{Kind: api.ClosedOwn, View: v})
	x.Outs[0].Amount++
	p.wantSort("not own any more", 0, x, 3, api.Closed{Kind: api.ClosedRevoked, Secret: secrets.At(seedOf(0), 0)})
}

// P17.1: of many secrets each is found, to the last one that was told.
func TestSortManyRevoked(t *testing.T) {
	p := newPair(t, terms(), [2][32]byte{seedOf(0), seedOf(1)})
	for range 60 {
		p.add(0, 20, 20, 1)
		p.agree()
		s, v := p.c[1].Own()
		p.settle(1, v.Htlcs[0].Id, -1)
		p.agree()
		if _, w := p.c[1].Own(); len(w.Htlcs) != 0 {
			t.Fatal("not failed", s, w)
		}
	}
	if len(p.had[1]) < 100 {
		t.Fatal("commitments", len(p.had[1]))
	}
	p.askAll(map[string]int{})
}

// P17.1, R1: no channel.
func TestSortNil(t *testing.T) {
	p := busyPair(t)
	x, _ := p.c[0].Close()
	for _, c := range []*channel.Channel{nil, {}} {
		for _, y := range []api.Tx{x, {}, p.had[0][0]} {
			want := api.Closed{Kind: api.ClosedStrange, Tx: y, At: 6}
			if z := Sort(c, y, 6); !sameClosed(z, want) {
				t.Error(z)
			}
		}
	}
}

// wide is l with room behind its end, filled.
func wide[T any](l []T, fill T) []T {
	return append(append(make([]T, 0, len(l)+3), l...), fill, fill, fill)[:len(l)]
}

// roomy is x, all of whose lists have room behind their ends.
func roomy(x api.Tx) api.Tx {
	x.Ins, x.Outs = wide(x.Ins, api.In{Path: 77}), wide(x.Outs, api.Out{Amount: 77})
	for i := range x.Outs {
		x.Outs[i].Paths = wide(x.Outs[i].Paths, api.Path{A: 77})
	}
	return x
}

// copied is x in memory of its own.
func copied(x api.Tx) api.Tx {
	y := api.Tx{Ins: append([]api.In{}, x.Ins...)}
	for _, out := range x.Outs {
		y.Outs = append(y.Outs, api.Out{Amount: out.Amount, Paths: append([]api.Path{}, out.Paths...)})
	}
	return y
}

// whole is a copy of x with the room behind its lists' ends.
func whole(x api.Tx) api.Tx {
	x = api.Tx{Ins: x.Ins[:cap(x.Ins)], Outs: append([]api.Out{}, x.Outs[:cap(x.Outs)]...)}
	for i, out := range x.Outs {
		x.Outs[i].Paths = out.Paths[:cap(out.Paths)]
	}
	return copied(x)
}

// spoil writes over all that x has, and over the room behind.
func spoil(x api.Tx) {
	for _, out := range x.Outs {
		paths := out.Paths[:cap(out.Paths)]
		for k := range paths {
			paths[k] = api.Path{A: 99}
		}
	}
	ins, outs := x.Ins[:cap(x.Ins)], x.Outs[:cap(x.Outs)]
	for i := range ins {
		ins[i] = api.In{Path: 99}
	}
	for i := range outs {
		outs[i] = api.Out{Amount: 99}
	}
}

// R3: the transaction that is told is a new one, and so is the view.
func TestSortMemory(t *testing.T) {
	p := busyPair(t)
	for i := range p.c {
		x, _ := p.c[0].Close()
		want := copied(x)
		x = roomy(x)
		before := whole(x)
		z := Sort(p.c[i], x, 4)
		if !sameTx(whole(x), before) {
			t.Fatal("Sort changed the transaction")
		}
		spoil(x)
		if !sameTx(z.Tx, want) || chain.Id(z.Tx) != chain.Id(want) {
			t.Fatal("Sort kept the transaction")
		}
		clear(z.View.Htlcs[:cap(z.View.Htlcs)])
		spoil(z.Tx)
		if y := Sort(p.c[i], want, 4); len(y.View.Htlcs) != 3 || y.View.Htlcs[0].Amount == 0 || !sameTx(y.Tx, want) {
			t.Fatal("the channel was changed", y)
		}
	}
}
