package split

import (
	"tollhouse/api"
	"tollhouse/graph"
)

// laying is parts that are laid one behind the other, over a graph of their own: what one of them takes of a channel is not there for the next.
type laying struct {
	*graph.Graph
	want api.Want // of the next part; Most is what is left of the fees
}

// layAll is the ways of n parts of these amounts, if all of them can be laid. Their wants are w, but for the amounts.
func layAll(g *graph.Graph, w api.Want, n int, amountOf func(k int) int) ([]api.Way, bool) {
	l := laying{Graph: g.Fork(), want: w}
	ways := make([]api.Way, n)
	for k := range ways {
		way, ok := l.lay(amountOf(k))
		if !ok {
			return nil, false
		}
		ways[k] = way
	}
	return ways, true
}

// lay is the best way of one more part.
func (l *laying) lay(part int) (api.Way, bool) {
	l.want.Amount = part
	way, e := l.Find(l.want)
	if e != api.OK {
		return api.Way{}, false
	}
	l.want.Most -= way.Fee
	for i, edge := range way.Edges {
		edge.Capacity -= way.Amounts[i]
		l.Set(edge)
	}
	return way, true
}

// learnBad tells g that what went along way did not get through the edge at this place, if there is one, but through those ahead.
func learnBad(g *graph.Graph, way api.Way, place, tick int) {
	if place < 0 || place >= len(way.Edges) {
		return
	}
	learnGood(g, way, place, tick)
	edge := way.Edges[place]
	g.Learn(edge.Channel, edge.From, way.Amounts[place], tick, false)
}

// learnGood tells g that what went along way got through its first n edges.
func learnGood(g *graph.Graph, way api.Way, n, tick int) {
	for i, edge := range way.Edges[:n] {
		g.Learn(edge.Channel, edge.From, way.Amounts[i], tick, true)
	}
}
