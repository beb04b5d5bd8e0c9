package score

import (
	"math"
	"testing"

	"tollhouse/api"
)

// same tells whether two floats are one, the sign of a nought too; NaNs are all one.
func same(a, b float64) bool {
	if math.IsNaN(a) || math.IsNaN(b) {
		return math.IsNaN(a) && math.IsNaN(b)
	}
	return math.Float64bits(a) == math.Float64bits(b)
}

func want(t *testing.T, name string, got, want float64) {
	t.Helper()
	if !same(got, want) {
		t.Errorf("%s: %v, want %v", name, got, want)
	}
}

var (
	minus = math.Copysign(0, -1) // the nought with a sign
	inf   = math.Inf(1)
	tiny  = math.SmallestNonzeroFloat64
	huge  = math.MaxFloat64
)

// nans is NaNs of all sorts.
func nans() []float64 {
	var l []float64
	for _, b := range []uint64{0x7ff8000000000001, 0x7ff8000000000000, 0xfff8000000000000, 0x7ff0000000000001, 0xfff0000000000001, 0xffffffffffffffff} {
		l = append(l, math.Float64frombits(b))
	}
	return l
}

// floats is floats at all edges, rising; the noughts stand as one.
func floats() [][]float64 {
	return [][]float64{
		{-inf}, {-huge}, {-2}, {-1}, {-0.5}, {-0x1p-1022}, {-tiny}, {0, minus},
		{tiny}, {0x1p-1022}, {0x1p-64}, {0.1}, {0.5}, {math.Nextafter(1, 0)}, {1}, {math.Nextafter(1, 2)}, {2}, {100}, {huge}, {inf},
		nans(),
	}
}

// P21.1: what is clean.
func TestClean(t *testing.T) {
	for _, c := range []struct{ x, want float64 }{
		{0, 0}, {minus, 0}, {1, 1}, {0.5, 0.5}, {0.1, 0.1}, {tiny, tiny}, {0x1p-1022, 0x1p-1022},
		{-tiny, 0}, {-0.5, 0}, {-1, 0}, {-huge, 0}, {-inf, 0},
		{math.Nextafter(1, 0), math.Nextafter(1, 0)}, {math.Nextafter(1, 2), 1}, {2, 1}, {huge, 1}, {inf, 1},
	} {
		want(t, "Clean", Clean(c.x), c.want)
	}
	for _, x := range nans() {
		want(t, "Clean of a NaN", Clean(x), 0)
	}
	for _, l := range floats() {
		for _, x := range l {
			want(t, "Clean", Clean(x), plainClean(x))
		}
	}
}

// P21.1: weights, by hand.
func TestWeight(t *testing.T) {
	for age, w := range map[int]float64{
		0: 1, 1: 127.0 / 128, 2: 126.0 / 128, 32: 0.75, 63: 65.0 / 128, 64: 0.5, 65: 127.0 / 256, 96: 0.375, 127: 65.0 / 256, 128: 0.25,
		640:  1.0 / 1024,
		4096: 0x1p-64, 4096 + 32: 0x1.8p-65, 4096 + 63: 65 * 0x1p-71, 4160: 0, 4161: 0, 4223: 0, 4224: 0,
		api.MaxExpiry: 0, math.MaxInt: 0, -1: 1, -63: 1, -64: 1, -5000: 1, math.MinInt: 1, math.MinInt + 1: 1,
	} {
		want(t, "Weight", Weight(age), w)
	}
	for age := -200; age < 5000; age++ {
		want(t, "Weight", Weight(age), float(plainWeight(age)))
		if age >= 0 && age < 4160 && Weight(age+1) >= Weight(age) {
			t.Error("a weight that does not fall", age)
		}
	}
}

// P21.1: guesses, by hand.
func TestGuess(t *testing.T) {
	for _, c := range []struct {
		amount, capacity int
		want             float64
	}{
		{0, 9, 1}, {1, 9, 0.9}, {5, 9, 0.5}, {9, 9, 0.1}, {10, 9, 0}, {math.MaxInt, 9, 0},
		{0, 0, 1}, {1, 0, 0}, {1, 1, 0.5}, {1, 2, 2.0 / 3},
		{-1, 9, 0}, {0, -1, 0}, {-2, -1, 0}, {-1, -2, 0}, {math.MinInt, 9, 0}, {math.MinInt, math.MaxInt, 0}, {0, math.MinInt, 0},
		{0, math.MaxInt, 1}, {1, math.MaxInt, 1}, {1 << 62, math.MaxInt, 0.5},
		// 2^63 and 1 are 2^63 again; so is this amount.
		{math.MaxInt, math.MaxInt, 0},
		// 2^53 and 1 are 2^53.
		{1 << 53, 1 << 53, 0}, {1<<53 - 1, 1<<53 - 1, 0x1p-53},
	} {
		want(t, "Guess", Guess(c.amount, c.capacity), c.want)
		want(t, "Guess", Guess(c.amount, c.capacity), float(plainGuess(c.amount, c.capacity)))
	}
}

// P21.1: chances, by hand.
func TestChance(t *testing.T) {
	good, bad := api.Past{Good: 50, GoodAt: 10}, api.Past{Bad: 40, BadAt: 20}
	both := api.Past{Good: 60, GoodAt: 10, Bad: 40, BadAt: 10}
	for _, c := range []struct {
		name                   string
		past                   api.Past
		amount, capacity, tick int
		want                   float64
	}{
		{"nothing is known", api.Past{}, 25, 99, 10, 0.75},
		{"nothing is known, at no tick", api.Past{}, 25, 99, math.MinInt, 0.75},
		{"good just now", good, 50, 99, 10, 1},
		{"good, but not so much", good, 51, 99, 10, 0.49},
		{"good a while ago", good, 50, 99, 74, 0.75},
		{"good half a while ago", good, 50, 99, 42, 0.875},
		{"good long ago", good, 50, 99, 10 + 65*64, 0.5},
		{"good some day", good, 50, 99, 9, 1},
		{"good some day, far off", good, 50, 99, math.MinInt, 1},
		{"good for the greatest amount", api.Past{Good: math.MaxInt, GoodAt: 1}, math.MaxInt, math.MaxInt, 65, 0.5},
		{"good at no tick", api.Past{Good: 50}, 50, 99, 10, 0.5},
		{"good below all ticks", api.Past{Good: 50, GoodAt: -1}, 50, 99, 10, 0.5},
		{"good far below all ticks", api.Past{Good: 50, GoodAt: math.MinInt}, 50, 99, math.MaxInt, 0.5},
		{"good at the first tick, at the last one", api.Past{Good: 50, GoodAt: 1}, 50, 99, math.MaxInt, 0.5},
		{"bad just now", bad, 40, 99, 20, 0},
		{"bad, but not so little", bad, 39, 99, 20, 0.61},
		{"bad, and more", bad, 60, 99, 20, 0},
		{"bad a while ago", bad, 50, 99, 84, 0.25},
		{"bad long ago", bad, 50, 99, 20 + 65*64, 0.5},
		{"bad some day", bad, 50, 99, 19, 0},
		{"bad some day, far off", bad, 50, 99, math.MinInt, 0},
		{"bad at no tick", api.Past{Bad: 40}, 50, 99, 20, 0.5},
		{"bad below all ticks", api.Past{Bad: 40, BadAt: -1}, 50, 99, 20, 0.5},
		{"bad far below all ticks", api.Past{Bad: 40, BadAt: math.MinInt}, 50, 99, math.MaxInt, 0.5},
		{"good, then bad", both, 50, 99, 74, 0.375},
		{"good, then bad, just now", both, 50, 99, 10, 0},
		{"only good of both", both, 25, 99, 74, 0.875},
		{"only bad of both", both, 75, 99, 74, 0.125},
		{"nothing", good, 0, 99, 10, 1},
		{"nothing of nothing", api.Past{}, 0, 0, 10, 1},
		{"too much, though good", api.Past{Good: 1000, GoodAt: 10}, 100, 99, 10, 0},
		{"below 0, though good", good, -1, 99, 10, 0},
		{"a capacity below 0, though good", good, 0, -1, 10, 0},
		{"both below 0, though good", good, -2, -1, 10, 0},
	} {
		want(t, c.name, Chance(c.past, c.amount, c.capacity, c.tick), c.want)
	}
}

// P21.2: costs of one edge, by hand.
func TestCost(t *testing.T) {
	for _, c := range []struct {
		fee, delta   int
		chance, want float64
	}{
		{0, 0, 1, 100}, {1, 0, 1, 101}, {0, 1, 1, 110}, {7, 3, 0.5, 237}, {7, 3, 0.25, 437},
		{1, 0, 0, inf}, {1, 0, minus, inf}, {1, 0, -1, inf}, {1, 0, -inf, inf}, {1, 0, math.NaN(), inf}, {1, 0, -tiny, inf},
		{1, 0, 2, 101}, {1, 0, inf, 101}, {1, 0, 1.5, 101},
		{-1, 0, 1, inf}, {0, -1, 1, inf}, {math.MinInt, math.MinInt, 1, inf}, {-1, -1, 0, inf},
		{math.MaxInt, 0, 1, 0x1p63}, {0, math.MaxInt, 1, 10 * 0x1p63}, {math.MaxInt, math.MaxInt, 1, 11 * 0x1p63},
		{0, 0, 0x1p-100, 100 * 0x1p100}, {0, 0, tiny, inf},
		// The fee is rounded by itself: 2^53 + 1 is 2^53.
		{1<<53 + 1, 0, 1, 1<<53 + 100}, {1 << 53, 0, 1, 1<<53 + 100},
		// From the left: beside 2^57 a Delta of 1 is lost ahead of 200, by which there are 192 more; 210 would be 224.
		{1 << 57, 1, 0.5, 1<<57 + 192},
	} {
		want(t, "Cost", Cost(c.fee, c.delta, c.chance), c.want)
	}
}

// P21.2: costs together.
func TestJoin(t *testing.T) {
	for _, c := range []struct {
		l    []float64
		want float64
	}{
		{nil, 0}, {[]float64{}, 0}, {[]float64{0}, 0}, {[]float64{minus}, 0}, {[]float64{minus, minus}, 0}, {[]float64{5}, 5}, {[]float64{1, 2, 4}, 7},
		{[]float64{inf}, inf}, {[]float64{1, inf, 2}, inf}, {[]float64{-inf}, inf}, {[]float64{inf, -inf}, inf}, {[]float64{-inf, inf}, inf},
		{[]float64{-1}, inf}, {[]float64{5, -1}, inf}, {[]float64{-tiny, 5}, inf}, {[]float64{tiny}, tiny},
		{[]float64{math.NaN()}, inf}, {[]float64{1, math.NaN()}, inf}, {[]float64{math.NaN(), 1}, inf}, {[]float64{math.NaN(), -1}, inf},
		{[]float64{huge}, huge}, {[]float64{huge, huge}, inf}, {[]float64{huge, huge, -1}, inf},
		// From the left: a 1 is lost beside 2^53, two of them together are not.
		{[]float64{0x1p53, 1, 1}, 0x1p53}, {[]float64{1, 1, 0x1p53}, 0x1p53 + 2},
	} {
		want(t, "Join", Join(c.l...), c.want)
	}
	for _, x := range nans() {
		want(t, "Join of a NaN", Join(1, x, 2), inf)
	}
	l := []float64{1, 2, 3, 4}
	if Join(l[:2]...) != 3 || l[0] != 1 || l[1] != 2 || l[2] != 3 || l[3] != 4 {
		t.Error("Join changed what it was given")
	}
}

// P21.2, P21.4: Less is an order, in which a NaN is above all, and noughts are equal.
func TestLess(t *testing.T) {
	type ranked struct {
		x    float64
		rank int
	}
	var all []ranked
	for rank, l := range floats() {
		for _, x := range l {
			all = append(all, ranked{x, rank})
		}
	}
	for _, a := range all {
		for _, b := range all {
			if Less(a.x, b.x) != (a.rank < b.rank) {
				t.Errorf("Less(%v, %v): %v", a.x, b.x, Less(a.x, b.x))
			}
			for _, c := range all {
				if Less(a.x, b.x) && Less(b.x, c.x) && !Less(a.x, c.x) {
					t.Error("it does not go through", a.x, b.x, c.x)
				}
			}
		}
		if Less(a.x, a.x) {
			t.Error("less than itself", a.x)
		}
	}
}

// P21.3: what is learnt, by hand.
func TestLearn(t *testing.T) {
	known := api.Past{Good: 50, GoodAt: 10, Bad: 80, BadAt: 11}
	for _, c := range []struct {
		name         string
		past         api.Past
		amount, tick int
		good         bool
		want         api.Past
	}{
		{"no amount", known, 0, 20, true, known},
		{"no amount, bad", known, 0, 20, false, known},
		{"an amount below 0", known, -1, 20, true, known},
		{"an amount far below 0", known, math.MinInt, 20, false, known},
		{"no tick", known, 60, 0, true, known},
		{"no tick, bad", known, 60, 0, false, known},
		{"a tick below 0", known, 60, -1, true, known},
		{"a tick far below 0", known, 60, math.MinInt, false, known},
		{"the first good one", api.Past{}, 1, 1, true, api.Past{Good: 1, GoodAt: 1}},
		{"the first bad one", api.Past{}, 1, 1, false, api.Past{Bad: 1, BadAt: 1}},
		{"more is good", known, 60, 20, true, api.Past{Good: 60, GoodAt: 20, Bad: 80, BadAt: 11}},
		{"as much is good", known, 50, 20, true, api.Past{Good: 50, GoodAt: 20, Bad: 80, BadAt: 11}},
		{"less is good", known, 40, 20, true, api.Past{Good: 50, GoodAt: 20, Bad: 80, BadAt: 11}},
		{"nearly what was bad is good", known, 79, 20, true, api.Past{Good: 79, GoodAt: 20, Bad: 80, BadAt: 11}},
		{"what was bad is good", known, 80, 20, true, api.Past{Good: 80, GoodAt: 20}},
		{"more than what was bad is good", known, 81, 20, true, api.Past{Good: 81, GoodAt: 20}},
		{"all is good", known, math.MaxInt, math.MaxInt, true, api.Past{Good: math.MaxInt, GoodAt: math.MaxInt}},
		{"less is bad", known, 70, 20, false, api.Past{Good: 50, GoodAt: 10, Bad: 70, BadAt: 20}},
		{"as much is bad", known, 80, 20, false, api.Past{Good: 50, GoodAt: 10, Bad: 80, BadAt: 20}},
		{"more is bad", known, 90, 20, false, api.Past{Good: 50, GoodAt: 10, Bad: 80, BadAt: 20}},
		{"just more than what was good is bad", known, 51, 20, false, api.Past{Good: 50, GoodAt: 10, Bad: 51, BadAt: 20}},
		{"what was good is bad", known, 50, 20, false, api.Past{Good: 49, GoodAt: 10, Bad: 50, BadAt: 20}},
		{"less than what was good is bad", known, 40, 20, false, api.Past{Good: 39, GoodAt: 10, Bad: 40, BadAt: 20}},
		{"one is bad", known, 1, 20, false, api.Past{GoodAt: 10, Bad: 1, BadAt: 20}},
		{"at an elder tick", known, 60, 5, true, api.Past{Good: 60, GoodAt: 5, Bad: 80, BadAt: 11}},
		{"bad, though what was bad has no tick", api.Past{Bad: 30}, 60, 5, false, api.Past{Bad: 60, BadAt: 5}},
		{"bad, though what was bad has a tick below 0", api.Past{Bad: 30, BadAt: -1}, 60, 5, false, api.Past{Bad: 30, BadAt: 5}},
		{"good, though what was bad has no tick", api.Past{Bad: 90}, 60, 5, true, api.Past{Good: 60, GoodAt: 5, Bad: 90}},
	} {
		if got := Learn(c.past, c.amount, c.tick, c.good); got != c.want {
			t.Errorf("%s: %+v, want %+v", c.name, got, c.want)
		}
	}
}

// P21.1, P21.2: the document's examples.
func TestExamples(t *testing.T) {
	want(t, "Weight(64)", Weight(64), 0.5)
	want(t, "Weight(32)", Weight(32), 0.75)
	want(t, "Guess(0, 9)", Guess(0, 9), 1)
	want(t, "Cost(1, 0, 0)", Cost(1, 0, 0), inf)
}
