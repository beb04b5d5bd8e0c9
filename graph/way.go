package graph

import (
	"math"

	"tollhouse/amount"
	"tollhouse/api"
	"tollhouse/score"
)

// lay is the way along these edges, which it takes as they are, if it may be taken for w, and its cost has an end.
func lay(w api.Want, edges []api.Edge) (api.Way, bool) {
	x := api.Way{Edges: edges, Amounts: make([]int, len(edges)), Expiries: make([]int, len(edges))}
	into, expiry := w.Amount, w.Last
	for i := len(edges) - 1; i >= 0; i-- {
		if into > edges[i].Capacity || expiry > api.MaxExpiry {
			return api.Way{}, false
		}
		x.Amounts[i], x.Expiries[i] = into, expiry
		if i == 0 {
			// The first edge's own fees and Delta do not count: From is who pays.
			break
		}
		in, e := amount.In(edges[i].Rules.Fees, into)
		if e != api.OK {
			return api.Way{}, false
		}
		into, expiry = in, expiry+edges[i].Rules.Delta
	}
	x.Fee = into - w.Amount
	if x.Fee > w.Most {
		return api.Way{}, false
	}
	x.Cost = cost(x, w.Tick)
	return x, score.Less(x.Cost, math.Inf(1))
}

// cost is what x costs at this tick.
func cost(x api.Way, tick int) float64 {
	costs := make([]float64, 0, api.MaxHops)
	for i, e := range x.Edges {
		fee, delta := 0, 0
		if i > 0 {
			fee, delta = x.Amounts[i-1]-x.Amounts[i], e.Rules.Delta
		}
		chance := score.Chance(e.Past, x.Amounts[i], e.Capacity, tick)
		costs = append(costs, score.Cost(fee, delta, chance))
	}
	return score.Join(costs...)
}

// better tells whether x, which has higher Channels than the best one so far, is better than that (which may be none).
func better(x, best api.Way) bool {
	switch {
	case len(best.Edges) == 0 || score.Less(x.Cost, best.Cost):
		return true
	case score.Less(best.Cost, x.Cost):
		return false
	}
	return len(x.Edges) < len(best.Edges)
}
