package score

import (
	"math"
	"math/big"

	"tollhouse/api"
)

// The document's words, with floats of 53 bits that another program rounds, operation by operation.

type number = *big.Float

func of(n int) number { return blank().SetInt64(int64(n)) }

func blank() number { return new(big.Float).SetPrec(53) }

func plus(a, b number) number  { return blank().Add(a, b) }
func less(a, b number) number  { return blank().Sub(a, b) }
func times(a, b number) number { return blank().Mul(a, b) }
func by(a, b number) number    { return blank().Quo(a, b) }

func float(x number) float64 {
	f, _ := x.Float64()
	return f
}

func plainClean(x float64) float64 {
	switch {
	case math.IsNaN(x), math.Signbit(x):
		return 0
	case math.IsInf(x, 1), x > 1:
		return 1
	}
	return x
}

func plainWeight(age int) number {
	if age < 0 {
		return of(1)
	}
	q, r := age/64, age%64
	if q > 64 {
		return of(0)
	}
	w := of(1)
	for i := 0; i < q; i++ {
		w = by(w, of(2))
	}
	return times(w, less(of(1), by(of(r), of(128))))
}

func plainGuess(amount, capacity int) number {
	if capacity < amount || amount < 0 || capacity < 0 {
		return of(0)
	}
	return by(less(plus(of(capacity), of(1)), of(amount)), plus(of(capacity), of(1)))
}

// plainAge is tick less at, as the document says it of what runs over.
func plainAge(tick, at int) int {
	d := new(big.Int).Sub(big.NewInt(int64(tick)), big.NewInt(int64(at)))
	switch {
	case d.IsInt64():
		return int(d.Int64())
	case tick < at:
		return 0
	}
	return 2147483647
}

func plainChance(p api.Past, amount, capacity, tick int) float64 {
	if capacity < amount || amount < 0 || capacity < 0 {
		return 0
	}
	g := plainGuess(amount, capacity)
	if p.GoodAt > 0 && amount <= p.Good {
		w := plainWeight(plainAge(tick, p.GoodAt))
		g = plus(g, times(less(of(1), g), w))
	}
	if p.BadAt > 0 && amount >= p.Bad {
		w := plainWeight(plainAge(tick, p.BadAt))
		g = times(g, less(of(1), w))
	}
	return plainClean(float(g))
}

func plainCost(fee, delta int, chance float64) float64 {
	chance = plainClean(chance)
	if fee < 0 || delta < 0 || chance == 0 {
		return math.Inf(1)
	}
	x := plus(of(fee), times(of(delta), of(10)))
	return float(plus(x, by(of(100), blank().SetFloat64(chance))))
}

func plainLearn(p api.Past, amount, tick int, good bool) api.Past {
	if amount < 1 || tick < 1 {
		return p
	}
	if good {
		if amount > p.Good {
			p.Good = amount
		}
		p.GoodAt = tick
		if p.Bad <= amount {
			p.Bad = 0
			p.BadAt = 0
		}
		return p
	}
	if p.BadAt == 0 {
		p.Bad = amount
	} else if amount < p.Bad {
		p.Bad = amount
	}
	p.BadAt = tick
	if p.Good > amount-1 {
		p.Good = amount - 1
	}
	return p
}
