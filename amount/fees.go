package amount

import (
	"math/bits"

	"tollhouse/api"
)

// million is what a Rate is a part of.
const million = 1000000

// Fee is the fee of the amount x.
func Fee(f api.Fees, x int) (int, api.Errno) {
	if !mayFees(f) || !mayAmounts(x) {
		return 0, api.ErrArg
	}
	return Add(f.Base, rated(x, f.Rate))
}

// In is what must come in for out to go out.
func In(f api.Fees, out int) (int, api.Errno) {
	fee, e := Fee(f, out)
	if e != api.OK {
		return 0, e
	}
	return Add(out, fee)
}

// Out is the greatest amount for which at most in must come in.
func Out(f api.Fees, in int) (int, api.Errno) {
	if !mayFees(f) || !mayAmounts(in) {
		return 0, api.ErrArg
	}
	left, e := Sub(in, f.Base)
	if e != api.OK {
		return 0, e
	}
	return unrated(left, f.Rate), api.OK
}

// Way is what stands ahead of each hop, and out as its last.
func Way(hops []api.Fees, out int) ([]int, api.Errno) {
	// Asked of all ahead of going: ErrArg goes ahead of ErrOver, at whichever hop it stands.
	if !mayFees(hops...) || !mayAmounts(out) {
		return nil, api.ErrArg
	}
	way := make([]int, len(hops)+1)
	way[len(hops)] = out
	for i := len(hops) - 1; i >= 0; i-- {
		in, e := In(hops[i], way[i+1])
		if e != api.OK {
			return nil, e
		}
		way[i] = in
	}
	return way, api.OK
}

// mayFees tells whether each of l may be.
func mayFees(l ...api.Fees) bool {
	for _, f := range l {
		if !mayAmounts(f.Base) || f.Rate < 0 || f.Rate > api.MaxRate {
			return false
		}
	}
	return true
}

// rated is x times rate divided by a million, rounded down. It is at most x, since rate is at most a million; so Div64 has room for it.
func rated(x, rate int) int {
	high, low := bits.Mul64(uint64(x), uint64(rate))
	part, _ := bits.Div64(high, low, million)
	return int(part)
}

// unrated is the greatest x that is with rated(x, rate) at most y.
//
// x and rated(x, rate) together are x times (million + rate) / million, rounded down. That is at most y if and only if x times (million + rate) is below (y + 1) times million: the greatest such x is one less than that, divided, rounded down. It is at most y, so Div64 has room for it.
func unrated(y, rate int) int {
	high, low := bits.Mul64(uint64(y)+1, million)
	low, borrow := bits.Sub64(low, 1, 0)
	x, _ := bits.Div64(high-borrow, low, uint64(million+rate))
	return int(x)
}
