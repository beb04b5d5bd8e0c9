package audit

import (
	"flag"
	"testing"

	"tollhouse/api"
)

// How many nets are tried, and from which on: more of them find more.
var (
	seeds = flag.Int64("seeds", 90, "how many nets are tried")
	from  = flag.Int64("from", 0, "the first one of them")
)

// eachSeed does something with each net that is to be tried.
func eachSeed(do func(seed int64)) {
	for seed := *from; seed < *from+*seeds; seed++ {
		do(seed)
	}
}

// P1, P2, P3, P25.5, P25.6, P26.3, P26.4: whatever happens, all money is there; in the end nothing is left to be done, nobody that keeps to the rules is short, and all deals between two that do agree, and are done or failed.
func TestAnyhow(t *testing.T) {
	count := map[int]int{}
	spent := 0
	eachSeed(func(seed int64) {
		bad := seed%3 == 2
		x := newWorld(t, seed, bad, anyNet)
		for range 150 + x.r.Intn(400) {
			x.Do(x.any())
			x.reopen()
			x.wantWhole()
		}
		quiet := x.settleDown()
		x.wantWhole()
		if !quiet && !bad {
			t.Errorf("seed %d: something is left to be done", seed)
		}
		if quiet && !bad {
			x.wantAll()
		}
		x.wantNobodyShort()
		x.wantAgreement(count)
		for _, z := range x.net.Terms {
			if x.Spent(z.Channel) {
				spent++
			}
		}
	})
	if n := int(*seeds); count[api.PayDone] < n || count[api.PayFailed] < n || spent < n/3 {
		t.Error("too little happened", count, spent)
	}
}

// wantNobodyShort asks that nobody that keeps to the rules is short.
func (x *world) wantNobodyShort() {
	x.t.Helper()
	for i, bad := range x.net.Bad {
		if s := Short(x.Sim, i); s > 0 && !bad {
			x.t.Errorf("seed %d: node %d is short by %d", x.name, i, s)
		}
	}
}

// wantAgreement asks that deals between two that keep to the rules agree, and are over; it counts them by their states.
func (x *world) wantAgreement(count map[int]int) {
	x.t.Helper()
	for _, d := range Deals(x.Sim) {
		if x.net.Bad[d.Payer] || x.net.Bad[d.Payee] {
			continue
		}
		count[d.State]++
		if !d.Agrees || d.State == api.PayOpen {
			x.t.Errorf("seed %d: %+v", x.name, d)
		}
	}
}

// wantAll asks of a net that is quiet that what all have, what nobody can claim, and what was paid in fees is what there was.
func (x *world) wantAll() {
	x.t.Helper()
	sum := x.Dust() + x.Fees()
	for i := range x.net.Nodes {
		open, chain := x.Wealth(i)
		sum += open + chain
	}
	if start := Books(x.Sim).Start; sum != start {
		x.t.Errorf("seed %d: all have %d, not %d", x.name, sum, start)
	}
}

// P1, P3, P26.3: also where rules do not let P2 hold, blocks do not take all that waits, and nodes are dead for long.
func TestAnything(t *testing.T) {
	eachSeed(func(seed int64) {
		x := newWorld(t, seed, false, careless)
		for range 150 + x.r.Intn(300) {
			m := x.any()
			if m.Kind == api.MoveBlock {
				m.Hold = x.r.Perm(x.r.Intn(4))
			}
			x.Do(m)
			x.wantWhole()
		}
		if !x.settleDown() {
			t.Errorf("seed %d: something is left to be done", seed)
		}
		x.wantWhole()
		x.wantAll()
		for _, d := range Deals(x.Sim) {
			if d.State == api.PayOpen {
				t.Errorf("seed %d: not over: %+v", seed, d)
			}
		}
	})
}
