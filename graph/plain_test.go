package graph

import (
	"math"
	"math/big"
	"slices"
	"sort"

	"tollhouse/api"
	"tollhouse/score"
)

// The document's words, as a list that is looked through, with sums that cannot run over.

type plain struct{ edges []api.Edge }

func within(n, least, most int) bool { return n >= least && n <= most }

// plainMay: the limits are written out, as the document says them.
func plainMay(e api.Edge) bool {
	r := e.Rules
	return within(e.Channel, 1, 65535) && within(e.From, 0, 7) && within(e.To, 0, 7) && e.From != e.To && e.Capacity >= 0 &&
		r.Fees.Base >= 0 && within(r.Fees.Rate, 0, 1000000) && within(r.Delta, 1, 1000) && within(r.Grace, 0, 1000) && within(r.Far, 1, 2147483647)
}

func (p *plain) at(channel, from int) int {
	return slices.IndexFunc(p.edges, func(e api.Edge) bool { return e.Channel == channel && e.From == from })
}

func (p *plain) set(e api.Edge) api.Errno {
	if !plainMay(e) {
		return api.ErrArg
	}
	i := p.at(e.Channel, e.From)
	if i < 0 && len(p.edges) == 64 {
		return api.ErrFull
	}
	if i < 0 {
		p.edges = append(p.edges, e)
	} else {
		p.edges[i] = e
	}
	sort.Slice(p.edges, func(i, j int) bool {
		a, b := p.edges[i], p.edges[j]
		return a.Channel < b.Channel || a.Channel == b.Channel && a.From < b.From
	})
	return api.OK
}

func (p *plain) remove(channel, from int) api.Errno {
	i := p.at(channel, from)
	if i < 0 {
		return api.ErrNone
	}
	p.edges = append(slices.Clone(p.edges[:i]), p.edges[i+1:]...)
	return api.OK
}

func (p *plain) get(channel, from int) (api.Edge, bool) {
	i := p.at(channel, from)
	if i < 0 {
		return api.Edge{}, false
	}
	return p.edges[i], true
}

func (p *plain) learn(channel, from, amount, tick int, good bool) api.Errno {
	i := p.at(channel, from)
	if i < 0 {
		return api.ErrNone
	}
	p.edges[i].Past = score.Learn(p.edges[i].Past, amount, tick, good)
	return api.OK
}

func (p *plain) from(node int) []api.Edge {
	var l []api.Edge
	for _, e := range p.edges {
		if e.From == node {
			l = append(l, e)
		}
	}
	return l
}

// ways is all ways for w, whether they may be taken or not, and how many steps it took to go through them.
func (p *plain) ways(w api.Want) (ways [][]api.Edge, steps int) {
	var along func(node int, way []api.Edge)
	along = func(node int, way []api.Edge) {
		if node == w.To {
			ways = append(ways, slices.Clone(way))
			return
		}
		if len(way) == 8 {
			return
		}
		for _, e := range p.from(node) {
			steps++
			been := e.To == w.From || slices.ContainsFunc(way, func(x api.Edge) bool { return x.To == e.To })
			if !been && !slices.Contains(w.Avoid, e.Channel) {
				along(e.To, append(slices.Clone(way), e))
			}
		}
	}
	along(w.From, nil)
	return ways, steps
}

// plainIn is what must come in for out to go on.
func plainIn(f api.Fees, out *big.Int) *big.Int {
	fee := new(big.Int).Mul(out, big.NewInt(int64(f.Rate)))
	fee.Div(fee, big.NewInt(1000000))
	fee.Add(fee, big.NewInt(int64(f.Base)))
	return fee.Add(fee, out)
}

// plainLay is the way along edges, and whether it may be taken.
func plainLay(w api.Want, edges []api.Edge) (api.Way, bool) {
	x := api.Way{Edges: edges, Amounts: make([]int, len(edges)), Expiries: make([]int, len(edges))}
	may := true
	into, expiry := big.NewInt(int64(w.Amount)), w.Last
	for i := len(edges) - 1; i >= 0; i-- {
		if i < len(edges)-1 {
			into = plainIn(edges[i+1].Rules.Fees, into)
			expiry += edges[i+1].Rules.Delta
		}
		may = may && into.IsInt64() && into.Cmp(big.NewInt(int64(edges[i].Capacity))) <= 0 && expiry <= 2147483647
		x.Amounts[i], x.Expiries[i] = int(into.Int64()), expiry
	}
	if !may || x.Amounts[0]-w.Amount > w.Most {
		return api.Way{}, false
	}
	x.Fee = x.Amounts[0] - w.Amount
	var costs []float64
	for i, e := range edges {
		chance := score.Chance(e.Past, x.Amounts[i], e.Capacity, w.Tick)
		if i == 0 {
			costs = append(costs, score.Cost(0, 0, chance))
		} else {
			costs = append(costs, score.Cost(x.Amounts[i-1]-x.Amounts[i], e.Rules.Delta, chance))
		}
	}
	x.Cost = score.Join(costs...)
	return x, true
}

func channelsOf(edges []api.Edge) []int {
	var l []int
	for _, e := range edges {
		l = append(l, e.Channel)
	}
	return l
}

// ahead tells whether the way a is better than b.
func ahead(a, b api.Way) bool {
	if score.Less(a.Cost, b.Cost) || score.Less(b.Cost, a.Cost) {
		return score.Less(a.Cost, b.Cost)
	}
	if len(a.Edges) != len(b.Edges) {
		return len(a.Edges) < len(b.Edges)
	}
	return slices.Compare(channelsOf(a.Edges), channelsOf(b.Edges)) < 0
}

func plainWant(w api.Want) bool {
	return within(w.From, 0, 7) && within(w.To, 0, 7) && w.From != w.To && w.Amount >= 1 && within(w.Last, 0, 2147483647) && w.Most >= 0
}

// find is the best way for w, of all that may be taken, and how many these are.
func (p *plain) find(w api.Want) (api.Way, api.Errno, int) {
	if !plainWant(w) {
		return api.Way{}, api.ErrArg, 0
	}
	ways, steps := p.ways(w)
	var laid []api.Way
	for _, edges := range ways {
		if x, ok := plainLay(w, edges); ok {
			laid = append(laid, x)
		}
	}
	sort.SliceStable(laid, func(i, j int) bool { return ahead(laid[i], laid[j]) })
	switch {
	case len(laid) == 0, math.IsInf(laid[0].Cost, 1):
		return api.Way{}, api.ErrNone, len(laid)
	case steps > 100000:
		return api.Way{}, api.ErrLong, len(laid)
	}
	return laid[0], api.OK, len(laid)
}

// same tells whether two ways are one.
func same(a, b api.Way) bool {
	return slices.Equal(a.Edges, b.Edges) && slices.Equal(a.Amounts, b.Amounts) && slices.Equal(a.Expiries, b.Expiries) && a.Fee == b.Fee && math.Float64bits(a.Cost) == math.Float64bits(b.Cost)
}
