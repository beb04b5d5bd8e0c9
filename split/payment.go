package split

import (
	"slices"

	"tollhouse/amount"
	"tollhouse/api"
	"tollhouse/mac"
	"tollhouse/share"
)

// payment is one of them.
type payment struct {
	invoice api.Invoice
	most    int // fees
	state   int
	tries   []api.Try
	flying  map[int]struct{} // the numbers of those tries
	given   bool             // one of its parts was given up
}

// lock is what the parts of a payment are locked with.
type lock struct {
	set    [32]byte
	hashOf func(part int) [32]byte
	shares [][32]byte // of each part
}

// lockOf is the lock of n parts for i, whose secrets, if they are the payer's to choose, come of seed.
func lockOf(i api.Invoice, seed [32]byte, n int) lock {
	if i.Kind != api.InvoiceSet {
		return lock{hashOf: func(int) [32]byte { return i.Hash }, shares: make([][32]byte, n)}
	}
	root, set := mac.Derive(seed, "root", 0), mac.Derive(seed, "set", 0)
	// n is one that a set may have: nothing is refused.
	shares, _ := share.Split(root, seed, n)
	return lock{set: set, hashOf: func(part int) [32]byte { return share.Hash(root, set, part) }, shares: shares}
}

// begin lets parts of these amounts fly, each on its way.
func (x *payment) begin(ways []api.Way, amountOf func(k int) int, l lock) {
	x.state = api.PayOpen
	for k, way := range ways {
		x.fly(api.Try{Part: k, Amount: amountOf(k), Hash: l.hashOf(k), Share: l.shares[k], Set: l.set, Way: way})
	}
}

// again lets the part of the try of this number fly once more, on another way.
func (x *payment) again(number int, way api.Way) api.Try {
	t := x.tries[number]
	t.Way = way
	return x.fly(t)
}

// fly makes t the last try, flying.
func (x *payment) fly(t api.Try) api.Try {
	t.Payment, t.Number, t.State = x.invoice.Secret, len(x.tries), api.TryFlying
	x.tries = append(x.tries, t)
	x.flying[t.Number] = struct{}{}
	return t
}

// end is what became of a try that was flying.
func (x *payment) end(number, state int) {
	x.tries[number].State = state
	delete(x.flying, number)
}

// close ends the payment, if nothing is flying any more.
func (x *payment) close() {
	switch {
	case len(x.flying) > 0:
		return
	case slices.ContainsFunc(x.tries, isPaid):
		x.state = api.PayDone
	default:
		x.state = api.PayFailed
	}
}

// mayGoOn tells whether one more try would be of use: all of the payment may still arrive.
func (x *payment) mayGoOn() bool {
	return !x.given && len(x.tries) < api.MaxTries && !slices.ContainsFunc(x.tries, isPaid)
}

// feesLeft is what is left of the fees by those tries that are flying.
func (x *payment) feesLeft() int {
	_, fees := x.sum(func(t api.Try) bool { return t.State == api.TryFlying })
	return x.most - fees
}

// sum is what those tries sum up to that are meant, and their fees. Neither runs over: they are never more than the invoice's amount, and most.
func (x *payment) sum(meant func(t api.Try) bool) (int, int) {
	var amounts, fees []int
	for _, t := range x.tries {
		if meant(t) {
			amounts, fees = append(amounts, t.Amount), append(fees, t.Way.Fee)
		}
	}
	all, _ := amount.Sum(amounts...)
	fee, _ := amount.Sum(fees...)
	return all, fee
}

func isPaid(t api.Try) bool {
	return t.State == api.TryPaid
}
