package policy

import (
	"math/big"

	"tollhouse/api"
)

// The document's words, with numbers that cannot run over.

func number(n int) *big.Int { return big.NewInt(int64(n)) }

func plus(a, b int) *big.Int { return new(big.Int).Add(number(a), number(b)) }

func within(n, least, most int) bool { return n >= least && n <= most }

// plainMay: the limits are written out, as the document says them.
func plainMay(r api.Rules) bool {
	return r.Fees.Base >= 0 && within(r.Fees.Rate, 0, 1000000) && within(r.Delta, 1, 1000) && within(r.Grace, 0, 1000) && within(r.Far, 1, 2147483647)
}

// plainIn is what must come in for out to go on.
func plainIn(f api.Fees, out int) *big.Int {
	fee := new(big.Int).Mul(number(out), number(f.Rate))
	fee.Div(fee, number(1000000))
	fee.Add(fee, number(f.Base))
	return fee.Add(fee, number(out))
}

func plainWrong(r api.Rules, amount, expiry, height int) bool {
	return !plainMay(r) || amount < 0 || expiry < 0 || height < 0 || expiry > 2147483647 || height > 2147483647
}

func plainForward(r api.Rules, h api.Hop, amount, expiry, height int) int {
	switch {
	case plainWrong(r, amount, expiry, height), h.Channel < 1:
		return 1
	case number(expiry).Cmp(plus(height, r.Far)) > 0:
		return 6
	case number(h.Expiry).Cmp(plus(height, r.Grace)) <= 0:
		return 5
	case plus(h.Expiry, r.Delta).Cmp(number(expiry)) > 0:
		return 4
	case h.Amount < 1:
		return 8
	case number(amount).Cmp(plainIn(r.Fees, h.Amount)) < 0:
		return 3
	}
	return 0
}

func plainFinal(r api.Rules, h api.Hop, amount, expiry, height int) int {
	switch {
	case plainWrong(r, amount, expiry, height), h.Channel != 0:
		return 1
	case number(expiry).Cmp(plus(height, r.Far)) > 0:
		return 6
	case number(expiry).Cmp(plus(height, r.Grace)) <= 0:
		return 5
	case expiry < h.Expiry:
		return 4
	case amount < h.Amount, h.Amount < 1, h.Total < h.Amount:
		return 8
	}
	return 0
}

func plainExpiries(hops []api.Rules, last int) ([]int, api.Errno) {
	for _, r := range hops {
		if !plainMay(r) {
			return nil, api.ErrArg
		}
	}
	if !within(last, 0, 2147483647) {
		return nil, api.ErrArg
	}
	l := []int{last}
	for i := range hops {
		ahead := l[0] + hops[len(hops)-1-i].Delta
		if ahead > 2147483647 {
			return nil, api.ErrOver
		}
		l = append([]int{ahead}, l...)
	}
	return l, api.OK
}
