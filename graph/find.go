package graph

import (
	"slices"

	"tollhouse/api"
)

// Find is the best way for w.
func (g *Graph) Find(w api.Want) (api.Way, api.Errno) {
	switch {
	case g.closed():
		return api.Way{}, api.ErrClosed
	case !mayWant(w):
		return api.Way{}, api.ErrArg
	}
	var best api.Way
	long := g.walk(w, func(edges []api.Edge) bool {
		if x, ok := lay(w, edges); ok && better(x, best) {
			x.Edges = slices.Clone(edges)
			best = x
		}
		return len(best.Edges) > 0
	})
	switch {
	case len(best.Edges) == 0:
		return api.Way{}, api.ErrNone
	case long:
		return api.Way{}, api.ErrLong
	}
	return best, api.OK
}

// mayWant tells whether a way may be looked for that is wanted so.
func mayWant(w api.Want) bool {
	return areTwoNodes(w.From, w.To) && w.Amount >= 1 && isAmount(w.Amount) && w.Last >= 0 && w.Last <= api.MaxExpiry && w.Most >= 0
}

// walk goes through all edges that lead from w's From to its To, by rising Channels, and shows them to see, which tells
// whether a way was found yet. They are see's only till it answers. walk tells whether it takes more than MaxSteps.
//
// A step too many ends the walk only if a way was found: that there is none goes ahead of there being too many steps, and
// so must be known.
//
// One does not go through a node twice: so there are never more than MaxHops edges.
func (g *Graph) walk(w api.Want, see func(edges []api.Edge) bool) bool {
	out, avoid := g.byFrom(), channels(w.Avoid)
	var gone [api.MaxNodes]bool
	gone[w.From] = true
	// For each node where one stands: the edge that was gone along to it (the first one comes from nowhere), and those that
	// were not looked at yet.
	way := append(make([]api.Edge, 0, api.MaxHops+1), api.Edge{To: w.From})
	left := [][]api.Edge{out[w.From]}
	steps, found := 0, false
look:
	for len(way) > 0 {
		last := len(way) - 1
		for len(left[last]) > 0 {
			e := left[last][0]
			left[last] = left[last][1:]
			steps++
			if steps > api.MaxSteps && found {
				break look
			}
			if _, no := avoid[e.Channel]; no || gone[e.To] {
				continue
			}
			if e.To == w.To {
				found = see(append(way, e)[1:])
				continue
			}
			gone[e.To] = true
			way, left = append(way, e), append(left, out[e.To])
			continue look
		}
		gone[way[last].To] = false
		way, left = way[:last], left[:last]
	}
	return steps > api.MaxSteps
}

// byFrom is the edges from each node, in order.
func (g *Graph) byFrom() [api.MaxNodes][]api.Edge {
	var out [api.MaxNodes][]api.Edge
	for node := range out {
		out[node] = g.from(node)
	}
	return out
}

// channels is those of l that may be channels: what else is there would only take room.
func channels(l []int) map[int]struct{} {
	set := map[int]struct{}{}
	for _, x := range l {
		if isChannel(x) {
			set[x] = struct{}{}
		}
	}
	return set
}
