package graph

import (
	"slices"
	"testing"

	"tollhouse/api"
)

// ladder is edges from 0 to 1, 1 to 2, .., as many of each as is said, the Channels from 101 on.
func ladder(widths ...int) []api.Edge {
	var l []api.Edge
	for from, n := range widths {
		for range n {
			l = append(l, edge(101+len(l), from, from+1))
		}
	}
	return l
}

// just is a ladder from 0 to 5 that takes 10 (1 + 9 (1 + 10 (1 + 10 (1 + 10)))) steps: as many as there may be.
func just() []api.Edge {
	return ladder(10, 9, 10, 10, 10)
}

// steps is how many steps the document's words take.
func steps(edges []api.Edge, w api.Want) int {
	p := plain{edges: slices.Clone(edges)}
	slices.SortFunc(p.edges, order)
	_, n := p.ways(w)
	return n
}

// P22.2: MaxSteps are not too many, one more is; which edges are looked at, and which are gone along.
func TestSteps(t *testing.T) {
	for _, c := range []struct {
		name  string
		more  []api.Edge
		avoid []int
		steps int
		want  api.Errno
	}{
		{"just", nil, nil, 100000, api.OK},
		{"to nowhere", []api.Edge{edge(1, 0, 7)}, nil, 100001, api.ErrLong},
		{"to nowhere, as the last one", []api.Edge{edge(900, 0, 7)}, nil, 100001, api.ErrLong},
		{"one that is avoided", []api.Edge{edge(900, 0, 1)}, []int{900}, 100001, api.ErrLong},
		{"back", []api.Edge{edge(900, 1, 0)}, nil, 100010, api.ErrLong},
		{"back, further on", []api.Edge{edge(900, 4, 2)}, nil, 109000, api.ErrLong},
		{"not on from To", []api.Edge{edge(900, 5, 6), edge(901, 5, 0), edge(902, 6, 7)}, nil, 100000, api.OK},
		{"from nowhere", []api.Edge{edge(900, 6, 7), edge(901, 7, 5)}, nil, 100000, api.OK},
		{"directly", []api.Edge{edge(900, 0, 5)}, nil, 100001, api.ErrLong},
		{"one of the first ones is avoided", []api.Edge{edge(1, 0, 7), edge(900, 1, 0)}, []int{101}, 11 + 9*10000, api.OK},
		{"back to From, from where one does not go on again", []api.Edge{edge(900, 4, 0)}, []int{101}, 10 + 9*9999 + 9*900, api.OK},
		{"one of the last ones is avoided", nil, []int{149}, 100000, api.OK},
	} {
		edges := append(just(), c.more...)
		w := wanted(5, 100)
		w.Avoid = c.avoid
		if n := steps(edges, w); n != c.steps {
			t.Errorf("%s: %d steps, want %d", c.name, n, c.steps)
		}
		if c.want != api.OK {
			wantNo(t, c.name, with(t, edges...), w, c.want)
			continue
		}
		x := found(t, c.name, with(t, edges...), w)
		if len(x.Edges) != 5 {
			t.Error(c.name, x)
		}
	}
}

// P22.2, R2: that there is no way goes ahead of there being too many steps.
func TestNoneAheadOfLong(t *testing.T) {
	edges := append(just(), edge(1, 0, 7))
	g := with(t, edges...)
	w := wanted(5, 1001)
	wantNo(t, "too much", g, w, api.ErrNone)
	wantNo(t, "nowhere", g, wanted(6, 100), api.ErrNone)
	w = wanted(5, 100)
	w.Last = api.MaxExpiry
	wantNo(t, "too late", g, w, api.ErrNone)
	for channel := 101; channel <= 110; channel++ {
		g.Learn(channel, 0, 100, 1, false)
	}
	wantNo(t, "no chance", g, wanted(5, 100), api.ErrNone)
	w = wanted(5, 99)
	wantNo(t, "less", g, w, api.ErrLong)
	w.Amount = -1
	wantNo(t, "what may not be wanted", g, w, api.ErrArg)
}

// P22.2: a way is looked for behind too many steps too, as long as none was found.
func TestFoundBehind(t *testing.T) {
	for _, c := range []struct {
		name string
		open int // the one of the first edges that has room
		want api.Errno
	}{{"the first one", 101, api.ErrLong}, {"the last one", 111, api.ErrLong}, {"none", 0, api.ErrNone}} {
		edges := ladder(11, 9, 10, 10, 10)
		for i := range 11 {
			if edges[i].Channel != c.open {
				edges[i].Capacity = 99
			}
		}
		if n := steps(edges, wanted(5, 100)); n != 110000 {
			t.Error(c.name, n)
		}
		wantNo(t, c.name, with(t, edges...), wanted(5, 100), c.want)
	}
	// The last one of all ways is found.
	edges := just()
	for i, from := range []int{10, 19, 29, 39, 49} {
		for k := range edges[:from] {
			if edges[k].From == i && k != from-1 {
				edges[k].Capacity = 99
			}
		}
	}
	wantWay(t, "the last one of all", with(t, edges...), wanted(5, 100), 110, 119, 129, 139, 149)
}

// R1: the most steps that a graph can take end soon enough.
func TestMostSteps(t *testing.T) {
	edges := ladder(10, 9, 9, 9, 9, 9, 9)
	for i := range 10 {
		edges[i].Capacity = 0
	}
	wantNo(t, "none of all", with(t, edges...), wanted(7, 1), api.ErrNone)
	edges[0].Capacity = 1
	wantNo(t, "one of all", with(t, edges...), wanted(7, 1), api.ErrLong)
}
