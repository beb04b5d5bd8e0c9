package channel

import (
	"tollhouse/api"
	"tollhouse/deal"
	"tollhouse/updates"
)

// book is the updates of both, as one of the two has them.
type book struct {
	terms  api.Terms
	isB    bool // one is B of the terms
	own    []api.Msg
	others []api.Msg
}

// first is A's and B's updates of the first own and the first others'.
func (b *book) first(own, others int) ([]api.Msg, []api.Msg) {
	return turned(b.isB, b.own[:own:own], b.others[:others:others])
}

// cut leaves the first own and the first others' updates. What comes next is not written where the others stood.
func (b *book) cut(own, others int) {
	b.own, b.others = b.own[:own:own], b.others[:others:others]
}

// view is what the commitment s says.
func (b *book) view(s api.Signed) (api.View, api.Errno) {
	l, k := b.first(s.Own, s.Other)
	return updates.View(b.terms, l, k, len(l), len(k))
}

// may tells whether by may send x behind the first own and the first others' updates.
func (b *book) may(own, others, by int, x api.Msg) api.Errno {
	l, k := b.first(own, others)
	return updates.May(b.terms, l, k, by, x)
}

// commit is the transaction of holder's commitment s, with that point, if there is a view of it.
func (b *book) commit(holder int, point [32]byte, s api.Signed) (api.Tx, bool) {
	v, e := b.view(s)
	if e != api.OK {
		return api.Tx{}, false
	}
	x, e := deal.Commit(b.terms, holder, point, v)
	return x, e == api.OK
}

// turned is x and y, in the other order if round.
func turned[T any](round bool, x, y T) (T, T) {
	if round {
		return y, x
	}
	return x, y
}

// placeOf is where in l the first update stands that adds the Htlc id, or, if settles, that settles the other one's id; and true.
func placeOf(l []api.Msg, id int, settles bool) (int, bool) {
	place, found := 0, false
search:
	for i := range l {
		if l[i].Id != id {
			continue
		}
		switch l[i].Kind {
		case api.MsgAdd:
			if !settles {
				place, found = i, true
				break search
			}
		case api.MsgFulfil, api.MsgFail:
			if settles {
				place, found = i, true
				break search
			}
		}
	}
	return place, found
}
