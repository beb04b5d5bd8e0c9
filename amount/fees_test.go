package amount

import (
	"math"
	"math/big"
	"math/rand"
	"slices"
	"testing"

	"tollhouse/api"
)

// wholeFee is the fee by the document's words, in numbers that never run over.
func wholeFee(f api.Fees, x int) *big.Int {
	n := new(big.Int).Mul(big.NewInt(int64(x)), big.NewInt(int64(f.Rate)))
	n.Quo(n, big.NewInt(1000000))
	return n.Add(n, big.NewInt(int64(f.Base)))
}

func wholeIn(f api.Fees, x int) *big.Int {
	return new(big.Int).Add(wholeFee(f, x), big.NewInt(int64(x)))
}

// clip is what is answered of a whole number: it, or ErrOver.
func clip(n *big.Int) (int, api.Errno) {
	if n.Cmp(big.NewInt(most)) > 0 {
		return 0, api.ErrOver
	}
	return int(n.Int64()), api.OK
}

// edges are fees and amounts at and around the limits.
func edges() ([]api.Fees, []int) {
	amounts := []int{0, 1, 2, 3, 999, 999999, 1000000, 1000001, 1999999, 1 << 32, most/2 - 1, most / 2, most/2 + 1, most - 1000001, most - 1, most}
	var fees []api.Fees
	for _, base := range amounts {
		for _, rate := range []int{0, 1, 2, 3, 7, 100, 333333, 499999, 500000, 500001, 999999, 1000000} {
			fees = append(fees, api.Fees{Base: base, Rate: rate})
		}
	}
	return fees, amounts
}

// badFees may not be.
func badFees() []api.Fees {
	return []api.Fees{{Base: -1}, {Base: math.MinInt}, {Rate: -1}, {Rate: api.MaxRate + 1}, {Rate: math.MinInt}, {Rate: math.MaxInt}, {Base: most, Rate: -1}}
}

// P2.2: the fee of the document's example, and roundings that one may follow by hand.
func TestFeeByHand(t *testing.T) {
	for _, c := range []struct{ base, rate, x, want int }{
		{1000, 100, 1000000, 1100},
		{0, 1, 999999, 0},
		{0, 1, 1000000, 1},
		{0, 1, 1999999, 1},
		{5, 500000, 3, 6},
		{5, 0, most, 5},
		{0, 1000000, most, most},
		{most, 0, most, most},
		{most, 1, 999999, most},
	} {
		got, e := Fee(api.Fees{Base: c.base, Rate: c.rate}, c.x)
		want(t, "Fee", got, e, c.want, api.OK)
	}
	_, e := Fee(api.Fees{Base: most, Rate: 1}, 1000000)
	want(t, "Fee beyond", 0, e, 0, api.ErrOver)
}

// P2.2: Fee and In at all edges, against numbers that never run over.
func TestFeeAndIn(t *testing.T) {
	fees, amounts := edges()
	for _, f := range fees {
		for _, x := range amounts {
			fee, e := Fee(f, x)
			n, errno := clip(wholeFee(f, x))
			want(t, "Fee", fee, e, n, errno)
			in, e := In(f, x)
			n, errno = clip(wholeIn(f, x))
			want(t, "In", in, e, n, errno)
		}
	}
}

// P2.2: Out is the greatest amount for which in is enough; there is none below Base.
func TestOut(t *testing.T) {
	fees, amounts := edges()
	r := rand.New(rand.NewSource(2))
	for range 200 {
		amounts = append(amounts, int(r.Uint64()>>(1+r.Intn(63))))
		fees = append(fees, api.Fees{Base: int(r.Uint64() >> (1 + r.Intn(63))), Rate: r.Intn(api.MaxRate + 1)})
	}
	for _, f := range fees {
		for _, in := range amounts {
			checkOut(t, f, in)
		}
	}
}

func checkOut(t *testing.T, f api.Fees, in int) {
	t.Helper()
	out, e := Out(f, in)
	if in < f.Base {
		want(t, "Out below Base", out, e, 0, api.ErrOver)
		return
	}
	whole := big.NewInt(int64(in))
	enough := out >= 0 && wholeIn(f, out).Cmp(whole) <= 0
	greatest := out == most || wholeIn(f, out+1).Cmp(whole) > 0
	if e != api.OK || !enough || !greatest {
		t.Errorf("Out(%v, %d) = %d, %d", f, in, out, e)
	}
}

// P2.2: Out of all small numbers, found by counting.
func TestOutByCounting(t *testing.T) {
	for _, rate := range []int{0, 1, 250000, 333333, 500000, 999999, 1000000} {
		f := api.Fees{Base: 2, Rate: rate}
		for in := 2; in < 300; in++ {
			greatest := 0
			for x := 0; x <= in; x++ {
				if wholeIn(f, x).Cmp(big.NewInt(int64(in))) <= 0 {
					greatest = x
				}
			}
			got, e := Out(f, in)
			want(t, "Out", got, e, greatest, api.OK)
		}
	}
}

// P2.1: what may not be is ErrArg in each call, also where the sum would run over.
func TestFeesThatMayNotBe(t *testing.T) {
	calls := []func(api.Fees, int) (int, api.Errno){Fee, In, Out}
	for _, call := range calls {
		for _, f := range badFees() {
			for _, x := range []int{0, 5, most} {
				got, e := call(f, x)
				want(t, "bad fees", got, e, 0, api.ErrArg)
			}
		}
		for _, x := range []int{-1, math.MinInt} {
			got, e := call(api.Fees{Base: most, Rate: 1000000}, x)
			want(t, "no amount", got, e, 0, api.ErrArg)
		}
	}
}

// P2.3: what stands ahead of each hop.
func TestWay(t *testing.T) {
	for _, c := range []struct {
		hops []api.Fees
		out  int
		want []int
	}{
		{nil, 7, []int{7}},
		{[]api.Fees{}, 0, []int{0}},
		{[]api.Fees{{Base: 10}, {Base: 1}}, 100, []int{111, 101, 100}},
		{[]api.Fees{{Rate: 500000}, {Rate: 1000000}, {Base: 1, Rate: 100000}}, 100, []int{333, 222, 111, 100}},
		{[]api.Fees{{}, {}}, most, []int{most, most, most}},
		{[]api.Fees{{}, {Base: 1}}, most - 1, []int{most, most, most - 1}},
	} {
		if got, e := Way(c.hops, c.out); e != api.OK || !slices.Equal(got, c.want) {
			t.Errorf("Way(%v, %d) = %v, %d, want %v", c.hops, c.out, got, e, c.want)
		}
	}
}

// P2.3: what Way refuses; ErrArg goes ahead of ErrOver at whichever hop it stands.
func TestWayRefuses(t *testing.T) {
	over := api.Fees{Base: most}
	cases := map[api.Errno][][]api.Fees{
		api.ErrOver: {{over}, {over, {}}, {{}, over}, {{Rate: 1000000}, {Rate: 1000000}, over}},
	}
	for _, f := range badFees() {
		cases[api.ErrArg] = append(cases[api.ErrArg], []api.Fees{f}, []api.Fees{f, {}}, []api.Fees{{}, f}, []api.Fees{f, over}, []api.Fees{over, f})
	}
	for errno, ways := range cases {
		for _, hops := range ways {
			if got, e := Way(hops, 5); e != errno || len(got) != 0 {
				t.Errorf("Way(%v, 5) = %v, %d, want %d", hops, got, e, errno)
			}
		}
	}
	for _, hops := range [][]api.Fees{nil, {{}}, {over}} {
		if got, e := Way(hops, -1); e != api.ErrArg || len(got) != 0 {
			t.Errorf("Way(%v, -1) = %v, %d", hops, got, e)
		}
	}
}

// P2.3, R3: Way leaves its hops alone.
func TestWayChangesNothing(t *testing.T) {
	hops := []api.Fees{{Base: 1, Rate: 2}, {Base: 3, Rate: 4}}
	Way(hops, 1000000)
	if !slices.Equal(hops, []api.Fees{{Base: 1, Rate: 2}, {Base: 3, Rate: 4}}) {
		t.Error("hops are others now", hops)
	}
}

// P2.4: Out of In is at least the amount; In of Out is at most what came in, and of one more it is more.
func TestInAndOut(t *testing.T) {
	fees, amounts := edges()
	for _, f := range fees {
		for _, x := range amounts {
			if in, e := In(f, x); e == api.OK {
				if out, e := Out(f, in); e != api.OK || out < x {
					t.Errorf("Out(%v, In(%d)) = %d, %d", f, x, out, e)
				}
			}
			out, e := Out(f, x)
			if e != api.OK {
				continue
			}
			if in, e := In(f, out); e != api.OK || in > x {
				t.Errorf("In(%v, Out(%d)) = %d, %d", f, x, in, e)
			}
			if in, e := In(f, out+1); out < most && e == api.OK && in <= x {
				t.Errorf("In(%v, Out(%d) + 1) = %d", f, x, in)
			}
		}
	}
}
