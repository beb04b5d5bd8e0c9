package updates

import (
	"slices"

	"tollhouse/amount"
	"tollhouse/api"
	"tollhouse/deal"
)

// book is what some updates of both make of a channel.
type book struct {
	a, b side
}

// side is what they make of one of the two, and of its Htlcs.
type side struct {
	has  int
	adds int        // Htlcs of all kinds
	open []api.Htlc // that are not settled, by rising Id
	kept int        // what those sum up to that were not failed
	paid int        // what those sum up to that were fulfilled
}

// read is the book of A's and B's updates. What is wrong with either of the two goes ahead of what is asked next of both.
func read(t api.Terms, a, b []api.Msg) (book, api.Errno) {
	if !deal.May(t) || !mayAll(a) || !mayAll(b) {
		return book{}, api.ErrArg
	}
	byA, okA := settled(a, Adds(b, len(b)))
	byB, okB := settled(b, Adds(a, len(a)))
	if !okA || !okB {
		return book{}, api.ErrNone
	}
	sideA, okA := sideOf(t.A, a, byB)
	sideB, okB := sideOf(t.B, b, byA)
	if !okA || !okB {
		return book{}, api.ErrOver
	}
	sideA.has, okA = left(t.StartA, sideB.paid, sideA.kept)
	sideB.has, okB = left(t.StartB, sideA.paid, sideB.kept)
	if !okA || !okB {
		return book{}, api.ErrReserve
	}
	if len(sideA.open) > api.MaxSlots || len(sideB.open) > api.MaxSlots {
		return book{}, api.ErrSlots
	}
	return book{a: sideA, b: sideB}, api.OK
}

// view is what a commitment says. Its Htlcs rise, as A is below B.
func (k book) view() api.View {
	return api.View{A: k.a.has, B: k.b.has, Htlcs: slices.Concat(k.a.open, k.b.open)}
}

// flying is what is on its way by one of the two.
func (s side) flying() int {
	sum := 0
	for _, h := range s.open {
		sum += h.Amount
	}
	return sum
}

// through hands each update of l to add or to settle, by its kind, till one of them refuses it; it tells whether none did. What is no update is refused.
func through(l []api.Msg, add, settle func(x *api.Msg) bool) bool {
	fault := false
updates:
	for i := range l {
		switch x := &l[i]; x.Kind {
		case api.MsgAdd:
			if !add(x) {
				fault = true
				break updates
			}
		case api.MsgFulfil, api.MsgFail:
			if !settle(x) {
				fault = true
				break updates
			}
		default:
			fault = true
			break updates
		}
	}
	return !fault
}

// pass takes every update.
func pass(*api.Msg) bool {
	return true
}

// mayAll tells whether l has updates alone, and Adds that may be.
func mayAll(l []api.Msg) bool {
	next := 0
	return through(l, func(x *api.Msg) bool {
		next++
		return x.Id == next-1 && x.Amount >= 1 && x.Hash != [32]byte{} && x.Expiry >= 0 && x.Expiry <= api.MaxExpiry
	}, pass)
}

// settled is by which kind of update l settles the other one's Htlcs, by their Ids; false, if it names one that is none of so many, or one twice.
func settled(l []api.Msg, adds int) (map[int]int, bool) {
	how := make(map[int]int, min(adds, len(l)))
	ok := through(l, pass, func(x *api.Msg) bool {
		if how[x.Id] != 0 || x.Id < 0 || x.Id >= adds {
			return false
		}
		how[x.Id] = x.Kind
		return true
	})
	return how, ok
}

// sideOf is what became of the Htlcs that node added in l, of which how tells which are settled; false, if those that were not failed sum up to more than an amount.
func sideOf(node int, l []api.Msg, how map[int]int) (side, bool) {
	s := side{}
	ok := through(l, func(x *api.Msg) bool {
		s.adds++
		kind := how[x.Id]
		if kind == api.MsgFail {
			return true
		}
		kept, e := amount.Add(s.kept, x.Amount)
		s.kept = kept
		if kind == api.MsgFulfil {
			s.paid += x.Amount
		} else {
			s.open = append(s.open, api.Htlc{By: node, Id: x.Id, Amount: x.Amount, Hash: x.Hash, Expiry: x.Expiry})
		}
		return e == api.OK
	}, pass)
	return s, ok
}

// left is what is left of start and got together when gone is taken away; false, if that is less than 0.
func left(start, got, gone int) (int, bool) {
	// start and got may be beyond an amount together. What is left is none only where the other one has less than 0.
	have := uint64(start) + uint64(got)
	if uint64(gone) > have {
		return 0, false
	}
	return int(have - uint64(gone)), true
}
