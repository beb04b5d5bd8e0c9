package resolver

import (
	"math"
	"math/bits"
	"slices"

	"tollhouse/api"
	"tollhouse/deal"
)

// Due tells whether the channel must be closed, if its commitment says v: an Htlc must go back, or must be claimed while there is time.
func Due(t api.Terms, node int, v api.View, height, margin int, known [][32]byte) bool {
	// less margin: ^margin and 1 is what turns its sign round, and neither runs over.
	back := together(height, ^margin, 1)
	ahead := together(height, t.Delay, margin)
	find := finder(known)
	return slices.ContainsFunc(v.Htlcs, func(h api.Htlc) bool {
		switch h.By {
		case node:
			return h.Expiry <= back
		case deal.Other(t, node):
			if h.Expiry > ahead {
				return false
			}
			_, ok := find(h.Hash)
			return ok
		}
		return false
	})
}

// together is what l sum up to; MaxExpiry, if that would run over.
func together(l ...int) int {
	// One number of twice the width, so that no part of the sum runs over.
	var high, low uint64
	for _, x := range l {
		sum, carry := bits.Add64(low, uint64(x), 0)
		low = sum
		high += signOf(uint64(x)) + carry
	}
	switch {
	case high == signOf(low):
		return int(low)
	case signOf(high) != 0:
		return math.MinInt
	}
	return api.MaxExpiry
}

// signOf is what stands ahead of a number, if that is made wider: all bits, if it is below 0.
func signOf(x uint64) uint64 {
	return uint64(int64(x) >> 63)
}
