package policy

import (
	"tollhouse/amount"
	"tollhouse/api"
)

// May tells whether a node may have these rules.
func May(r api.Rules) bool {
	// The fee of nothing is refused only if the fees may not be.
	_, e := amount.Fee(r.Fees, 0)
	return e == api.OK && r.Delta >= 1 && r.Delta <= api.MaxDelay && r.Grace >= 0 && r.Grace <= api.MaxDelay && r.Far >= 1 && r.Far <= api.MaxExpiry
}

// Margin is how many blocks a node with these rules needs in all.
func Margin(r api.Rules) int {
	if !May(r) {
		return 0
	}
	return r.Delta + r.Grace
}

// Expiries is when something must expire ahead of each hop of a way, and behind the last one.
func Expiries(hops []api.Rules, last int) ([]int, api.Errno) {
	// Asked of all ahead of adding: ErrArg goes ahead of ErrOver, wherever it stands.
	for _, r := range hops {
		if !May(r) {
			return nil, api.ErrArg
		}
	}
	if !mayHeight(last) {
		return nil, api.ErrArg
	}
	l := make([]int, len(hops)+1)
	l[len(hops)] = last
	for i := len(hops) - 1; i >= 0; i-- {
		l[i] = l[i+1] + hops[i].Delta
		if !mayHeight(l[i]) {
			return nil, api.ErrOver
		}
	}
	return l, api.OK
}

// mayHeight tells whether there may be this height.
func mayHeight(height int) bool {
	return 0 <= height && height <= api.MaxExpiry
}
