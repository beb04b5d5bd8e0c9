package score

import (
	"math"
	"math/rand"
	"testing"

	"tollhouse/api"
)

// near is one of these, or one beside it; at times anything.
func near(r *rand.Rand, l ...int) int {
	switch r.Intn(30) {
	case 0:
		return []int{math.MinInt, math.MinInt + 1, -1, 0, 1, math.MaxInt - 1, math.MaxInt, api.MaxExpiry}[r.Intn(8)]
	case 1:
		return int(r.Uint64() >> r.Intn(64))
	}
	return l[r.Intn(len(l))] + r.Intn(3) - 1
}

func anyPast(r *rand.Rand, amount, tick int) api.Past {
	var p api.Past
	if r.Intn(3) > 0 {
		p.Good, p.GoodAt = near(r, amount, amount, 50), near(r, tick, tick-64, tick-4160, tick-r.Intn(3000))
	}
	if r.Intn(3) > 0 {
		p.Bad, p.BadAt = near(r, amount, amount, 50), near(r, tick, tick-64, tick-4160, tick-r.Intn(3000))
	}
	return p
}

// P21.1, P21.4: any chances, held against the document's words; each is 0 to 1, no NaN, and no -0.
func TestChanceAnyhow(t *testing.T) {
	r := rand.New(rand.NewSource(1))
	var none, some, all int
	for range 200000 {
		amount := near(r, 1, 50, 1000, 1<<40, 1<<53, math.MaxInt-1)
		capacity := near(r, amount-1, 2, 99, 1<<41, 1<<53, math.MaxInt-1)
		tick := near(r, 1, 100, 5000, api.MaxExpiry)
		p := anyPast(r, amount, tick)
		got, should := Chance(p, amount, capacity, tick), plainChance(p, amount, capacity, tick)
		if !same(got, should) {
			t.Fatalf("Chance(%+v, %d, %d, %d): %v, want %v", p, amount, capacity, tick, got, should)
		}
		if !same(Guess(amount, capacity), float(plainGuess(amount, capacity))) {
			t.Fatalf("Guess(%d, %d): %v", amount, capacity, Guess(amount, capacity))
		}
		if !(got >= 0 && got <= 1) || math.Signbit(got) {
			t.Fatalf("Chance(%+v, %d, %d, %d): %v", p, amount, capacity, tick, got)
		}
		switch got {
		case 0:
			none++
		case 1:
			all++
		default:
			some++
		}
	}
	if none < 10000 || some < 10000 || all < 10000 {
		t.Error("chances", none, some, all)
	}
}

// P21.4: with an empty past the chance of a greater amount is not greater.
func TestChanceFalls(t *testing.T) {
	r := rand.New(rand.NewSource(2))
	for range 200000 {
		capacity := near(r, 2, 99, 1<<41, 1<<53, 1<<62, math.MaxInt-1)
		amount := near(r, 1, capacity-1, capacity/2, 1<<53)
		more := amount
		if more < math.MaxInt-2000 {
			more += 1 + r.Intn(1+r.Intn(2000))
		}
		if amount < 0 {
			continue
		}
		if Chance(api.Past{}, more, capacity, 5) > Chance(api.Past{}, amount, capacity, 5) {
			t.Fatal("a greater chance of a greater amount", amount, more, capacity)
		}
	}
}

// P21.2: any costs, held against the document's words.
func TestCostAnyhow(t *testing.T) {
	r := rand.New(rand.NewSource(3))
	ends := 0
	for range 200000 {
		fee, delta := near(r, 1, 1000, 1<<53, math.MaxInt-1), near(r, 1, 40, 1000, 1<<53)
		chance := []float64{r.Float64(), math.Ldexp(r.Float64(), -r.Intn(70)), 1, 2 * r.Float64(), 0, -r.Float64(), math.NaN()}[r.Intn(7)]
		got := Cost(fee, delta, chance)
		if !same(got, plainCost(fee, delta, chance)) {
			t.Fatalf("Cost(%d, %d, %v): %v, want %v", fee, delta, chance, got, plainCost(fee, delta, chance))
		}
		if !math.IsInf(got, 1) {
			ends++
		}
	}
	if ends < 50000 || ends > 190000 {
		t.Error("costs that have an end", ends)
	}
}

// P21.2: any sums, from the left.
func TestJoinAnyhow(t *testing.T) {
	r := rand.New(rand.NewSource(4))
	for range 50000 {
		l := make([]float64, r.Intn(9))
		sum := of(0)
		for i := range l {
			l[i] = math.Ldexp(r.Float64(), r.Intn(70))
			sum = plus(sum, blank().SetFloat64(l[i]))
		}
		want(t, "Join", Join(l...), float(sum))
	}
}

// P21.2, P21.4: any floats are ordered.
func TestLessAnyhow(t *testing.T) {
	r := rand.New(rand.NewSource(5))
	some := func() float64 {
		l := floats()
		k := l[r.Intn(len(l))]
		return []float64{k[r.Intn(len(k))], math.Float64frombits(r.Uint64()), float64(r.Intn(3))}[r.Intn(3)]
	}
	for range 200000 {
		a, b, c := some(), some(), some()
		if Less(a, a) || Less(a, b) && Less(b, a) || Less(a, b) && Less(b, c) && !Less(a, c) {
			t.Fatal("no order", a, b, c)
		}
		// What is neither less nor greater is equal; that goes through too.
		like := func(a, b float64) bool { return !Less(a, b) && !Less(b, a) }
		if like(a, b) && like(b, c) && !like(a, c) {
			t.Fatal("what is equal does not go through", a, b, c)
		}
		if like(a, b) != (a == b || math.IsNaN(a) && math.IsNaN(b)) {
			t.Fatal("equal", a, b)
		}
	}
}

// P21.3: anything that is learnt, held against the document's words.
func TestLearnAnyhow(t *testing.T) {
	r := rand.New(rand.NewSource(6))
	for range 2000 {
		var p api.Past
		if r.Intn(2) == 0 {
			p = anyPast(r, 50, 100)
		}
		for range 50 {
			amount, tick, good := near(r, 2, 50, 51, p.Good, p.Bad), near(r, 2, 100, 101), r.Intn(2) == 0
			should := plainLearn(p, amount, tick, good)
			if got := Learn(p, amount, tick, good); got != should {
				t.Fatalf("Learn(%+v, %d, %d, %v): %+v, want %+v", p, amount, tick, good, got, should)
			}
			p = should
		}
	}
}

// P21.1, P21.3: what failed just now has no chance, nor has more; what went through just now is sure, and less is.
func TestLearntChance(t *testing.T) {
	r := rand.New(rand.NewSource(7))
	var p api.Past
	for tick := 1; tick < 20000; tick++ {
		amount, good := 1+r.Intn(99), r.Intn(2) == 0
		p = Learn(p, amount, tick, good)
		for a := 0; a <= 99; a++ {
			switch c := Chance(p, a, 99, tick); {
			case good && a <= amount && c != 1, !good && a >= amount && c != 0:
				t.Fatal("the chance behind what was learnt", p, a, amount, good, c)
			}
		}
	}
}
