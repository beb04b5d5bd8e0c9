// Package amount is layer 2: sums of money. See shared/doc/02-amount.md.
package amount

import "tollhouse/api"

// maxShares is into how many parts an amount may be shared.
const maxShares = 65536

// Add is a and b together.
func Add(a, b int) (int, api.Errno) {
	if !mayAmounts(a, b) {
		return 0, api.ErrArg
	}
	if a > api.MaxMsat-b {
		return 0, api.ErrOver
	}
	return a + b, api.OK
}

// Sub is a less b.
func Sub(a, b int) (int, api.Errno) {
	if !mayAmounts(a, b) {
		return 0, api.ErrArg
	}
	if b > a {
		return 0, api.ErrOver
	}
	return a - b, api.OK
}

// Sum is all of l together.
func Sum(l ...int) (int, api.Errno) {
	// Asked of all ahead of adding: ErrArg goes ahead of ErrOver, wherever it stands.
	if !mayAmounts(l...) {
		return 0, api.ErrArg
	}
	sum := 0
	for _, x := range l {
		next, e := Add(sum, x)
		if e != api.OK {
			return 0, e
		}
		sum = next
	}
	return sum, api.OK
}

// Share is the part i of x in n parts that are as like as can be.
func Share(x, n, i int) int {
	if !mayAmounts(x) || n < 1 || n > maxShares || i < 0 || i >= n {
		return 0
	}
	part := x / n
	if i < x%n {
		part++
	}
	return part
}

// mayAmounts tells whether each of l is an amount.
func mayAmounts(l ...int) bool {
	for _, x := range l {
		if x < 0 || x > api.MaxMsat {
			return false
		}
	}
	return true
}
