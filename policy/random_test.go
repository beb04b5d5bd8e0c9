package policy

import (
	"math"
	"math/rand"
	"testing"

	"tollhouse/amount"
	"tollhouse/api"
)

// near is one of these, or one beside it; at times anything.
func near(r *rand.Rand, l ...int) int {
	if r.Intn(40) == 0 {
		return []int{math.MinInt, math.MinInt + 1, -1, 0, 1, math.MaxInt - 1, math.MaxInt, api.MaxExpiry, api.MaxExpiry + 1}[r.Intn(9)]
	}
	return l[r.Intn(len(l))] + r.Intn(3) - 1
}

func anyRules(r *rand.Rand) api.Rules {
	return api.Rules{
		Fees:  api.Fees{Base: near(r, 1, 10, 100), Rate: near(r, 1, 1000, 999999)},
		Delta: near(r, 2, 6, 999),
		Grace: near(r, 1, 5, 999),
		Far:   near(r, 2, 50, 500, api.MaxExpiry-1),
	}
}

// anyCame is mostly at an edge: what is asked of the fields behind is near what the fields ahead say.
func anyCame(r *rand.Rand) came {
	x := came{rules: anyRules(r)}
	x.height = near(r, 1, 100, 5000, api.MaxExpiry-2000)
	x.hop.Amount = near(r, 1, 1000, 1000000, math.MaxInt-1)
	x.hop.Total = near(r, x.hop.Amount, x.hop.Amount, 2000)
	x.hop.Channel = near(r, 0, 1)
	x.expiry = near(r, x.height+x.rules.Far, x.height+x.rules.Grace, x.height+x.rules.Grace+x.rules.Delta, x.height+40)
	x.hop.Expiry = near(r, x.expiry-x.rules.Delta, x.expiry, x.height+x.rules.Grace)
	in, _ := amount.In(x.rules.Fees, x.hop.Amount)
	x.amount = near(r, x.hop.Amount, in, in)
	return x
}

// P19.1, P19.2: any HTLCs, held against the document's words.
func TestReasonsAnyhow(t *testing.T) {
	r := rand.New(rand.NewSource(19))
	var forwards, finals [11]int
	for range 300000 {
		x := anyCame(r)
		if May(x.rules) != plainMay(x.rules) {
			t.Fatal("May", x.rules)
		}
		want := plainForward(x.rules, x.hop, x.amount, x.expiry, x.height)
		if got := forward(x); got != want {
			t.Fatalf("Forward of %+v: %d, want %d", x, got, want)
		}
		forwards[want]++
		want = plainFinal(x.rules, x.hop, x.amount, x.expiry, x.height)
		if got := final(x); got != want {
			t.Fatalf("Final of %+v: %d, want %d", x, got, want)
		}
		finals[want]++
	}
	for _, reason := range []int{0, 1, 3, 4, 5, 6, 8} {
		if forwards[reason] < 500 || finals[reason] < 500 && reason != 3 {
			t.Errorf("the reason %d was told %d and %d times", reason, forwards[reason], finals[reason])
		}
	}
}

// P19.3: any ways, held against the document's words.
func TestExpiriesAnyhow(t *testing.T) {
	r := rand.New(rand.NewSource(20))
	seen := map[api.Errno]int{}
	for range 20000 {
		hops := make([]api.Rules, r.Intn(9))
		for i := range hops {
			hops[i] = some()
			hops[i].Delta = 1 + r.Intn(1000)
			if r.Intn(30) == 0 {
				hops[i] = anyRules(r)
			}
		}
		last := near(r, 1, 5000, api.MaxExpiry-3000, api.MaxExpiry)
		l, e := plainExpiries(hops, last)
		wantExpiries(t, hops, last, l, e)
		seen[e]++
	}
	if len(seen) != 3 || seen[api.OK] < 1000 || seen[api.ErrArg] < 1000 || seen[api.ErrOver] < 1000 {
		t.Error("what was told", seen)
	}
}

// mayRules is rules that may be.
func mayRules(r *rand.Rand) api.Rules {
	return api.Rules{
		Fees:  api.Fees{Base: r.Intn(2000), Rate: r.Intn(1000001)},
		Delta: 1 + r.Intn(100),
		Grace: r.Intn(100),
		Far:   1 + r.Intn(1500),
	}
}

// P19.4: what amount.Way and Expiries say is handed on by each node of a way, and kept by the last one, if it is not
// too far and not too soon.
func TestWayIsHandedOn(t *testing.T) {
	r := rand.New(rand.NewSource(21))
	var seen [11]int
	for range 20000 {
		rules := make([]api.Rules, r.Intn(9))
		fees := make([]api.Fees, len(rules))
		for i := range rules {
			rules[i] = mayRules(r)
			fees[i] = rules[i].Fees
		}
		height, out := r.Intn(100000), 1+r.Intn(1000000)
		last := height + r.Intn(300)
		amounts, e := amount.Way(fees, out)
		expiries, f := Expiries(rules, last)
		if e != api.OK || f != api.OK {
			t.Fatal(e, f)
		}
		for i, x := range rules {
			want := 0
			if expiries[i]-height > x.Far {
				want = api.ReasonFar
			} else if expiries[i+1]-height <= x.Grace {
				want = api.ReasonSoon
			}
			h := api.Hop{Channel: 1 + r.Intn(9), Amount: amounts[i+1], Expiry: expiries[i+1]}
			if got := Forward(x, h, amounts[i], expiries[i], height); got != want {
				t.Fatalf("the hop %d of %v: %d, want %d", i, rules, got, want)
			}
			seen[want]++
			if want == 0 && (Forward(x, h, amounts[i]-1, expiries[i], height) != api.ReasonFee || Forward(x, h, amounts[i], expiries[i]-1, height) != api.ReasonDelta) {
				t.Fatal("less is handed on too")
			}
		}
		end := mayRules(r)
		want := 0
		if last-height > end.Far {
			want = api.ReasonFar
		} else if last-height <= end.Grace {
			want = api.ReasonSoon
		}
		if got := Final(end, api.Hop{Amount: out, Total: out + r.Intn(2)*out, Expiry: last}, out, last, height); got != want {
			t.Fatalf("the last one: %d, want %d", got, want)
		}
	}
	if seen[0] < 10000 || seen[api.ReasonFar] < 1000 || seen[api.ReasonSoon] < 1000 {
		t.Error("what was told", seen)
	}
}

// P19.1: the document's example.
func TestExample(t *testing.T) {
	r := api.Rules{Delta: 5, Far: 100}
	if Forward(r, api.Hop{Channel: 1, Amount: 1, Expiry: 15}, 1, 20, 1) != 0 || Forward(r, api.Hop{Channel: 1, Amount: 1, Expiry: 16}, 1, 20, 1) != api.ReasonDelta {
		t.Error("the example")
	}
}
