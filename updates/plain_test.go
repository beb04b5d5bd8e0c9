package updates

import (
	"crypto/sha3"
	"math/big"

	"tollhouse/api"
	"tollhouse/deal"
	"tollhouse/wire"
)

// plainHow is the kind of the first update of l that settles the other one's id; 0, if none does.
func plainHow(l []api.Msg, id int) int {
	for _, x := range l {
		if x.Kind != api.MsgAdd && x.Id == id {
			return x.Kind
		}
	}
	return 0
}

// plainSum is what those Adds of l sum up to of which good tells by how the other one's updates k settle them.
func plainSum(l, k []api.Msg, good func(how int) bool) *big.Int {
	sum := new(big.Int)
	for _, x := range l {
		if x.Kind == api.MsgAdd && good(plainHow(k, x.Id)) {
			sum.Add(sum, big.NewInt(int64(x.Amount)))
		}
	}
	return sum
}

func notFailed(how int) bool { return how != api.MsgFail }
func fulfilled(how int) bool { return how == api.MsgFulfil }
func unsettled(how int) bool { return how == 0 }

// plainHas is what one has that had start, sent l, and was sent k.
func plainHas(start int, l, k []api.Msg) *big.Int {
	has := big.NewInt(int64(start))
	has.Sub(has, plainSum(l, k, notFailed))
	return has.Add(has, plainSum(k, l, fulfilled))
}

func plainOpen(by int, l, k []api.Msg) []api.Htlc {
	var open []api.Htlc
	for _, x := range l {
		if x.Kind == api.MsgAdd && unsettled(plainHow(k, x.Id)) {
			open = append(open, api.Htlc{By: by, Id: x.Id, Amount: x.Amount, Hash: x.Hash, Expiry: x.Expiry})
		}
	}
	return open
}

func plainWrong(l []api.Msg) bool {
	adds := 0
	for _, x := range l {
		switch x.Kind {
		case api.MsgAdd:
			if x.Amount < 1 || x.Expiry < 0 || x.Expiry > 1<<31-1 || x.Hash == [32]byte{} || x.Id != adds {
				return true
			}
			adds++
		case api.MsgFulfil, api.MsgFail:
		default:
			return true
		}
	}
	return false
}

// plainNone tells whether an update of l names what is not among the Adds of k, or what was named ahead.
func plainNone(l, k []api.Msg) bool {
	for i, x := range l {
		if x.Kind == api.MsgAdd {
			continue
		}
		there := false
		for _, y := range k {
			there = there || y.Kind == api.MsgAdd && y.Id == x.Id
		}
		if !there || plainHow(l[:i], x.Id) != 0 {
			return true
		}
	}
	return false
}

// plainView is View by the document's words.
func plainView(t api.Terms, a, b []api.Msg, n, m int) (api.View, api.Errno) {
	if !deal.May(t) || n < 0 || n > len(a) || m < 0 || m > len(b) || plainWrong(a[:n]) || plainWrong(b[:m]) {
		return api.View{}, api.ErrArg
	}
	a, b = a[:n], b[:m]
	if plainNone(a, b) || plainNone(b, a) {
		return api.View{}, api.ErrNone
	}
	if !plainSum(a, b, notFailed).IsInt64() || !plainSum(b, a, notFailed).IsInt64() {
		return api.View{}, api.ErrOver
	}
	hasA, hasB := plainHas(t.StartA, a, b), plainHas(t.StartB, b, a)
	if hasA.Sign() < 0 || hasB.Sign() < 0 {
		return api.View{}, api.ErrReserve
	}
	openA, openB := plainOpen(t.A, a, b), plainOpen(t.B, b, a)
	if len(openA) > 16 || len(openB) > 16 {
		return api.View{}, api.ErrSlots
	}
	return api.View{A: int(hasA.Int64()), B: int(hasB.Int64()), Htlcs: append(openA, openB...)}, api.OK
}

// plainMay is May by the document's words.
func plainMay(t api.Terms, a, b []api.Msg, by int, x api.Msg) api.Errno {
	if _, e := plainView(t, a, b, len(a), len(b)); e != api.OK {
		return e
	}
	if by != t.A && by != t.B || x.Kind != api.MsgAdd && x.Kind != api.MsgFulfil && x.Kind != api.MsgFail || !wire.May(x) || x.Channel != t.Channel {
		return api.ErrArg
	}
	own, others, start, keep := a, b, t.StartA, big.NewInt(int64(t.Reserve))
	if by == t.B {
		own, others, start = b, a, t.StartB
	} else {
		keep.Add(keep, big.NewInt(int64(t.Fee)))
	}
	if x.Kind != api.MsgAdd {
		for _, h := range plainOpen(0, others, own) {
			if h.Id == x.Id && x.Kind == api.MsgFulfil && sha3.Sum256(x.Secret[:]) != h.Hash {
				return api.ErrSecret
			}
			if h.Id == x.Id {
				return api.OK
			}
		}
		return api.ErrNone
	}
	adds := 0
	for _, y := range own {
		if y.Kind == api.MsgAdd {
			adds++
		}
	}
	if x.Id != adds || x.Amount == 0 || x.Hash == [32]byte{} {
		return api.ErrArg
	}
	if len(plainOpen(0, own, others)) >= t.Slots {
		return api.ErrSlots
	}
	more := append(own[:len(own):len(own)], x)
	if plainSum(more, others, unsettled).Cmp(big.NewInt(int64(t.Flight))) > 0 {
		return api.ErrFlight
	}
	if plainHas(start, more, others).Cmp(keep) < 0 {
		return api.ErrReserve
	}
	if !plainSum(more, others, notFailed).IsInt64() {
		return api.ErrOver
	}
	return api.OK
}
