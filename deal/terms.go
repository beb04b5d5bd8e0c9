package deal

import (
	"slices"

	"tollhouse/amount"
	"tollhouse/api"
)

// maxHtlcs is how many Htlcs a view has at most: as many as both may have.
const maxHtlcs = 2 * api.MaxSlots

// May tells whether terms may be.
func May(t api.Terms) bool {
	_, e := amount.Sum(t.StartA, t.StartB)
	return e == api.OK && areAmounts(t.Fee, t.Reserve, t.Flight) &&
		t.Channel >= 1 && t.Channel <= api.MaxChannel &&
		t.A >= 0 && t.A < t.B && t.B < api.MaxNodes && t.Fund.Out >= 0 &&
		t.Delay >= 1 && t.Delay <= api.MaxDelay && t.Slots >= 1 && t.Slots <= api.MaxSlots
}

// Fits tells whether v may be a view of terms that may be.
func Fits(t api.Terms, v api.View) bool {
	return May(t) && len(v.Htlcs) <= maxHtlcs && mayHtlcs(t, v.Htlcs) && sumsUp(t, v)
}

// Other is the other one of the two; -1 of nodes that are neither.
func Other(t api.Terms, node int) int {
	switch node {
	case t.A:
		return t.B
	case t.B:
		return t.A
	}
	return -1
}

// isOf tells whether node is one of the two.
func isOf(t api.Terms, node int) bool {
	return node == t.A || node == t.B
}

// mayHtlcs tells whether each of l may be, and they rise.
func mayHtlcs(t api.Terms, l []api.Htlc) bool {
	wrong := func(h api.Htlc) bool {
		return !isOf(t, h.By) || h.Id < 0 || h.Expiry < 0 || h.Expiry > api.MaxExpiry || h.Hash == [32]byte{}
	}
	if slices.ContainsFunc(l, wrong) {
		return false
	}
	for i := 1; i < len(l); i++ {
		if !below(l[i-1], l[i]) {
			return false
		}
	}
	return true
}

// below tells whether a stands ahead of b in a view.
func below(a, b api.Htlc) bool {
	return a.By < b.By || a.By == b.By && a.Id < b.Id
}

// sumsUp tells whether v has what the channel has, in amounts.
func sumsUp(t api.Terms, v api.View) bool {
	amounts := []int{v.A, v.B}
	for _, h := range v.Htlcs {
		amounts = append(amounts, h.Amount)
	}
	sum, e := amount.Sum(amounts...)
	return e == api.OK && sum == t.StartA+t.StartB
}

// areAmounts tells whether each of l is an amount.
func areAmounts(l ...int) bool {
	return !slices.ContainsFunc(l, func(x int) bool { return x < 0 || x > api.MaxMsat })
}
