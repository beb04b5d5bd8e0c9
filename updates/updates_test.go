package updates

import (
	"reflect"
	"testing"

	"tollhouse/api"
	"tollhouse/deal"
	"tollhouse/mac"
)

const big62 = 1 << 62

func terms() api.Terms {
	return api.Terms{Channel: 7, A: 2, B: 5, StartA: 1000, StartB: 500, Delay: 1, Fee: 5, Reserve: 20, Slots: 3, Flight: 600}
}

func secretOf(n int) [32]byte {
	return [32]byte{byte(n), 3}
}

func add(id, sum int) api.Msg {
	return api.Msg{Kind: api.MsgAdd, Channel: 7, Id: id, Amount: sum, Expiry: 40 + id, Hash: mac.Hash(secretOf(id)), Onion: make([]byte, api.OnionSize)}
}

func fulfil(id int) api.Msg {
	return api.Msg{Kind: api.MsgFulfil, Channel: 7, Id: id, Secret: secretOf(id)}
}

func fail(id int) api.Msg {
	return api.Msg{Kind: api.MsgFail, Channel: 7, Id: id, Reason: []byte("no")}
}

func htlc(by, id, sum int) api.Htlc {
	return api.Htlc{By: by, Id: id, Amount: sum, Hash: mac.Hash(secretOf(id)), Expiry: 40 + id}
}

// some is a list of updates.
func some(l ...api.Msg) []api.Msg {
	return l
}

// adds is n Adds of an amount each.
func adds(n, sum int) []api.Msg {
	var l []api.Msg
	for id := range n {
		l = append(l, add(id, sum))
	}
	return l
}

// with is x, changed.
func with(x api.Msg, change func(x *api.Msg)) api.Msg {
	change(&x)
	return x
}

// sameView tells whether two views are the same; nil and the empty list are.
func sameView(v, w api.View) bool {
	return v.A == w.A && v.B == w.B && (len(v.Htlcs)+len(w.Htlcs) == 0 || reflect.DeepEqual(v.Htlcs, w.Htlcs))
}

// viewed asks for the view of all.
func viewed(t *testing.T, name string, d api.Terms, a, b []api.Msg, want api.View) {
	t.Helper()
	if v, e := View(d, a, b, len(a), len(b)); e != api.OK || !sameView(v, want) {
		t.Errorf("%s: View = %v, %d, want %v", name, v, e, want)
	}
}

// noView asks for the view of all to be refused.
func noView(t *testing.T, name string, d api.Terms, a, b []api.Msg, want api.Errno) {
	t.Helper()
	if v, e := View(d, a, b, len(a), len(b)); e != want || !reflect.DeepEqual(v, api.View{}) {
		t.Errorf("%s: View = %v, %d, want %d", name, v, e, want)
	}
	// P15.2: what View of all refuses, May refuses, whoever sends whatever.
	for _, x := range some(add(0, 1), fail(0), api.Msg{}) {
		for _, by := range []int{2, 5, 0} {
			if e := May(d, a, b, by, x); e != want {
				t.Errorf("%s: May of the kind %d by %d = %d, want %d", name, x.Kind, by, e, want)
			}
		}
	}
}

// P15.1: what updates make of what both have.
func TestView(t *testing.T) {
	viewed(t, "nothing", terms(), nil, nil, api.View{A: 1000, B: 500})
	viewed(t, "an Add", terms(), adds(1, 100), nil, api.View{A: 900, B: 500, Htlcs: []api.Htlc{htlc(2, 0, 100)}})
	viewed(t, "the example", terms(), adds(1, 100), some(fulfil(0)), api.View{A: 900, B: 600})
	viewed(t, "failed", terms(), adds(1, 100), some(fail(0)), api.View{A: 1000, B: 500})
	viewed(t, "B's Add", terms(), nil, adds(1, 500), api.View{A: 1000, B: 0, Htlcs: []api.Htlc{htlc(5, 0, 500)}})
	viewed(t, "B's is fulfilled", terms(), some(fulfil(0)), adds(1, 500), api.View{A: 1500, B: 0})
	viewed(t, "B's is failed", terms(), some(fail(0)), adds(1, 500), api.View{A: 1000, B: 500})
	a := some(add(0, 100), add(1, 10), fulfil(1), add(2, 1), fail(0))
	b := some(add(0, 200), fail(1), add(1, 20), add(2, 2), fulfil(0), add(3, 3))
	viewed(t, "all at once", terms(), a, b, api.View{A: 919, B: 575, Htlcs: []api.Htlc{htlc(2, 2, 1), htlc(5, 2, 2), htlc(5, 3, 3)}})
	// An Htlc may be settled that stands further behind in its list.
	v, e := View(terms(), a, b, 4, 4)
	if e != api.OK || !sameView(v, api.View{A: 919, B: 278, Htlcs: []api.Htlc{htlc(2, 0, 100), htlc(2, 2, 1), htlc(5, 0, 200), htlc(5, 2, 2)}}) {
		t.Error("some of each", v, e)
	}
	if v, e := View(terms(), a, b, 0, 1); e != api.OK || !sameView(v, api.View{A: 1000, B: 300, Htlcs: []api.Htlc{htlc(5, 0, 200)}}) {
		t.Error("none of A's", v, e)
	}
	if _, e := View(terms(), a, b, 1, 2); e != api.ErrNone {
		t.Error("what settles without what it settles", e)
	}
}

// P15.1: only the first n and m are looked at.
func TestViewBehind(t *testing.T) {
	a := some(add(0, 100), api.Msg{Kind: 9}, add(7, 0))
	b := some(fulfil(0), fulfil(0), fulfil(3), api.Msg{})
	if v, e := View(terms(), a, b, 1, 1); e != api.OK || !sameView(v, api.View{A: 900, B: 600}) {
		t.Error("the first ones", v, e)
	}
	for _, c := range []struct {
		n, m int
		want api.Errno
	}{
		{2, 1, api.ErrArg}, {1, 2, api.ErrNone}, {1, 4, api.ErrArg}, {0, 0, api.OK}, {0, 1, api.ErrNone},
		{-1, 0, api.ErrArg}, {0, -1, api.ErrArg}, {4, 0, api.ErrArg}, {0, 5, api.ErrArg}, {1 << 62, 0, api.ErrArg}, {-1 << 63, -1 << 63, api.ErrArg},
	} {
		if _, e := View(terms(), a, b, c.n, c.m); e != c.want {
			t.Errorf("View of %d and %d: %d, want %d", c.n, c.m, e, c.want)
		}
	}
}

// P15.1: updates and terms that may not be.
func TestViewArg(t *testing.T) {
	for name, x := range map[string]api.Msg{
		"no kind":         {},
		"a kind below":    with(add(0, 1), func(x *api.Msg) { x.Kind = -1 }),
		"MsgSign":         {Kind: api.MsgSign},
		"MsgRevoke":       {Kind: api.MsgRevoke},
		"MsgHello":        {Kind: api.MsgHello},
		"Amount 0":        add(0, 0),
		"Amount below 0":  add(0, -1),
		"the least":       add(0, -1<<63),
		"Expiry below 0":  with(add(0, 1), func(x *api.Msg) { x.Expiry = -1 }),
		"Expiry too late": with(add(0, 1), func(x *api.Msg) { x.Expiry = api.MaxExpiry + 1 }),
		"no Hash":         with(add(0, 1), func(x *api.Msg) { x.Hash = [32]byte{} }),
		"Id 1":            add(1, 1),
		"Id -1":           add(-1, 1),
	} {
		noView(t, name+" of A", terms(), some(x), nil, api.ErrArg)
		noView(t, name+" of B", terms(), nil, some(x), api.ErrArg)
	}
	noView(t, "Id 0 again", terms(), some(add(0, 1), add(0, 1)), nil, api.ErrArg)
	noView(t, "Ids count Adds", terms(), some(add(0, 1), fail(0), add(2, 1)), adds(1, 1), api.ErrArg)
	noView(t, "terms", api.Terms{}, nil, nil, api.ErrArg)
	d := terms()
	d.Slots = 0
	noView(t, "no Slots", d, nil, nil, api.ErrArg)
	// Edges that may be; and what View does not ask for.
	for name, x := range map[string]api.Msg{
		"Expiry 0":        with(add(0, 1), func(x *api.Msg) { x.Expiry = 0 }),
		"the last Expiry": with(add(0, 1), func(x *api.Msg) { x.Expiry = api.MaxExpiry }),
		"no Onion":        with(add(0, 1), func(x *api.Msg) { x.Onion = nil }),
		"Channel":         with(add(0, 1), func(x *api.Msg) { x.Channel = 8 }),
	} {
		if v, e := View(terms(), some(x), nil, 1, 0); e != api.OK || len(v.Htlcs) != 1 || v.Htlcs[0].Expiry != x.Expiry {
			t.Error(name, v, e)
		}
	}
	viewed(t, "another secret", terms(), adds(1, 100), some(with(fulfil(0), func(x *api.Msg) { x.Secret[0]++ })), api.View{A: 900, B: 600})
}

// P15.1: updates that name what there is not, or twice.
func TestViewNone(t *testing.T) {
	for name, l := range map[string][]api.Msg{
		"beyond":         {fulfil(2)},
		"below":          {fail(-1)},
		"far":            {fail(1 << 62)},
		"fulfilled":      {fulfil(0), fulfil(0)},
		"failed":         {fail(1), fail(1)},
		"both":           {fulfil(1), fail(0), fail(1)},
		"the other way":  {fail(1), fulfil(1)},
		"of one's own":   {add(0, 1), fulfil(0), add(1, 1), add(2, 1), fail(2)},
		"the least ever": {fail(-1 << 63)},
	} {
		noView(t, name+", of A", terms(), l, adds(2, 1), api.ErrNone)
		noView(t, name+", of B", terms(), adds(2, 1), l, api.ErrNone)
	}
	noView(t, "none at all", terms(), some(fulfil(0)), nil, api.ErrNone)
}

// P15.1: sums that are beyond amounts, and those that only seem to be.
func TestViewSums(t *testing.T) {
	d := terms()
	d.StartA, d.StartB = big62, big62-1
	// Each gives the other one all that it has, to and fro.
	a := some(add(0, big62), fulfil(0), add(1, big62-1))
	b := some(fulfil(0), add(0, big62), fulfil(1), add(1, big62-1))
	viewed(t, "all goes to B", d, a[:1], b[:1], api.View{A: 0, B: api.MaxMsat})
	viewed(t, "and half comes back", d, a[:2], b[:2], api.View{A: big62, B: big62 - 1})
	viewed(t, "MaxMsat of each", d, some(a[0], a[1], a[2], fail(1)), b, api.View{A: 1, B: api.MaxMsat - 1})
	over := some(add(0, big62), add(1, big62))
	noView(t, "A's are too many", d, over, some(fulfil(0)), api.ErrOver)
	noView(t, "B's are too many", d, some(fulfil(1)), over, api.ErrOver)
	noView(t, "fulfilled ones", d, over, some(fulfil(0), fulfil(1)), api.ErrOver)
	viewed(t, "but failed ones", d, over, some(fail(1)), api.View{A: 0, B: big62 - 1, Htlcs: []api.Htlc{htlc(2, 0, big62)}})
	for name, l := range map[string][]api.Msg{"the other one's sum": {fail(0), fulfil(1)}, "both failed": {fail(0), fail(1)}} {
		if _, e := View(d, over, l, 2, 2); e != api.OK {
			t.Error(name, e)
		}
	}
	noView(t, "twice MaxMsat", d, adds(2, api.MaxMsat), nil, api.ErrOver)
	// What one has together with what it got is beyond an amount, and yet all is well.
	d.StartA, d.StartB = api.MaxMsat, 0
	viewed(t, "to and fro", d, some(add(0, api.MaxMsat), fulfil(0)), some(fulfil(0), add(0, api.MaxMsat)), api.View{A: api.MaxMsat, B: 0})
	// And where it is not: A would have twice MaxMsat, B less than 0.
	noView(t, "from nothing", d, some(fulfil(0)), adds(1, api.MaxMsat), api.ErrReserve)
}

// P15.1: less than 0, and too many that are not settled.
func TestViewReserveAndSlots(t *testing.T) {
	viewed(t, "all of A's", terms(), adds(1, 1000), nil, api.View{A: 0, B: 500, Htlcs: []api.Htlc{htlc(2, 0, 1000)}})
	noView(t, "more than all of A's", terms(), adds(1, 1001), nil, api.ErrReserve)
	noView(t, "more than all of B's", terms(), nil, adds(1, 501), api.ErrReserve)
	noView(t, "what was fulfilled is gone", terms(), some(add(0, 600), add(1, 401)), some(fulfil(0)), api.ErrReserve)
	viewed(t, "what came is there", terms(), some(fulfil(0), add(0, 1100)), adds(1, 100), api.View{A: 0, B: 400, Htlcs: []api.Htlc{htlc(2, 0, 1100)}})
	noView(t, "what may come is not", terms(), adds(1, 1100), adds(1, 100), api.ErrReserve)
	var all []api.Htlc
	for i := range 32 {
		all = append(all, htlc(2+i/16*3, i%16, 1))
	}
	viewed(t, "16 of each, beyond Slots", terms(), adds(16, 1), adds(16, 1), api.View{A: 984, B: 484, Htlcs: all})
	noView(t, "17 of A's", terms(), adds(17, 1), nil, api.ErrSlots)
	noView(t, "17 of B's", terms(), nil, adds(17, 1), api.ErrSlots)
	if v, e := View(terms(), adds(17, 1), some(fail(16)), 17, 1); e != api.OK || len(v.Htlcs) != 16 {
		t.Error("17 of which one is settled", e)
	}
}

// R2: of several errors the first one that the chapter names, wherever it stands.
func TestViewOrder(t *testing.T) {
	noView(t, "Arg ahead of None", terms(), some(fulfil(0)), some(add(1, 1)), api.ErrArg)
	noView(t, "None of B's ahead of Over of A's", terms(), adds(2, big62), some(fail(2)), api.ErrNone)
	noView(t, "None of A's ahead of Over of B's", terms(), some(fail(2)), adds(2, big62), api.ErrNone)
	noView(t, "Over of B's ahead of Reserve of A's", terms(), adds(1, 1001), adds(2, big62), api.ErrOver)
	noView(t, "Reserve of B's ahead of Slots of A's", terms(), adds(17, 1), adds(1, 501), api.ErrReserve)
	noView(t, "Over ahead of Slots", terms(), adds(17, big62), nil, api.ErrOver)
}

// P15.1: Find and Adds.
func TestFindAndAdds(t *testing.T) {
	v := api.View{Htlcs: []api.Htlc{htlc(2, 1, 10), htlc(2, 4, 40), htlc(5, 1, 11)}}
	for _, h := range v.Htlcs {
		if got, ok := Find(v, h.By, h.Id); !ok || got != h {
			t.Error("Find", h, got, ok)
		}
	}
	for _, c := range [][2]int{{2, 0}, {2, 2}, {5, 4}, {4, 1}, {-1, -1}, {0, 0}} {
		if got, ok := Find(v, c[0], c[1]); ok || got != (api.Htlc{}) {
			t.Error("Find of", c, got, ok)
		}
	}
	if got, ok := Find(api.View{}, 2, 1); ok || got != (api.Htlc{}) {
		t.Error("Find in nothing", got, ok)
	}
	l := some(add(0, 1), fail(0), add(5, 0), api.Msg{Kind: 99}, fulfil(3), add(0, -1), api.Msg{Kind: api.MsgHello})
	for n, want := range map[int]int{-1 << 63: 0, -1: 0, 0: 0, 1: 1, 2: 1, 3: 2, 4: 2, 5: 2, 6: 3, 7: 3, 8: 3, 1<<63 - 1: 3} {
		if got := Adds(l, n); got != want {
			t.Errorf("Adds of %d: %d, want %d", n, got, want)
		}
	}
	if Adds(nil, 3) != 0 {
		t.Error("Adds of nothing")
	}
}

// asked asks whether by may send x.
func asked(t *testing.T, name string, d api.Terms, a, b []api.Msg, by int, x api.Msg, want api.Errno) {
	t.Helper()
	if e := May(d, a, b, by, x); e != want {
		t.Errorf("%s: May = %d, want %d", name, e, want)
	}
	// P15.3
	if want == api.OK {
		if by == d.A {
			a = append(a[:len(a):len(a)], x)
		} else {
			b = append(b[:len(b):len(b)], x)
		}
		if v, e := View(d, a, b, len(a), len(b)); e != api.OK || !deal.Fits(d, v) {
			t.Errorf("%s: View behind = %v, %d", name, v, e)
		}
	}
}

// P15.2: who may send what at all.
func TestMayArg(t *testing.T) {
	for name, x := range map[string]api.Msg{
		"no kind":          {},
		"MsgSign":          {Kind: api.MsgSign, Channel: 7, Number: 1},
		"MsgRevoke":        {Kind: api.MsgRevoke, Channel: 7},
		"MsgHello":         {Kind: api.MsgHello, Channel: 7},
		"another Channel":  with(add(0, 1), func(x *api.Msg) { x.Channel = 8 }),
		"no Channel":       with(add(0, 1), func(x *api.Msg) { x.Channel = 0 }),
		"a short Onion":    with(add(0, 1), func(x *api.Msg) { x.Onion = x.Onion[1:] }),
		"a field too many": with(add(0, 1), func(x *api.Msg) { x.Number = 1 }),
		"a late Expiry":    with(add(0, 1), func(x *api.Msg) { x.Expiry = api.MaxExpiry + 1 }),
		"Id 1":             add(1, 1),
		"Id -1":            add(-1, 1),
		"Amount 0":         add(0, 0),
		"Amount below 0":   add(0, -1),
		"no Hash":          with(add(0, 1), func(x *api.Msg) { x.Hash = [32]byte{} }),
		"Fulfil elsewhere": with(fulfil(0), func(x *api.Msg) { x.Channel = 1 }),
		"Fulfil with Hash": with(fulfil(0), func(x *api.Msg) { x.Hash[0]++ }),
		"Fail elsewhere":   with(fail(0), func(x *api.Msg) { x.Channel = 1 }),
		"a long Reason":    with(fail(0), func(x *api.Msg) { x.Reason = make([]byte, api.MaxReason+1) }),
		"Fail of -1":       fail(-1),
	} {
		for _, by := range []int{2, 5} {
			asked(t, name, terms(), nil, nil, by, x, api.ErrArg)
		}
	}
	for _, by := range []int{-1, 0, 1, 3, 4, 6, 8} {
		asked(t, "neither", terms(), nil, nil, by, add(0, 1), api.ErrArg)
		asked(t, "neither", terms(), adds(1, 1), adds(1, 1), by, fail(0), api.ErrArg)
	}
	asked(t, "A's second", terms(), adds(1, 1), nil, 2, add(1, 1), api.OK)
	asked(t, "A's Id is not B's", terms(), nil, adds(1, 1), 2, add(1, 1), api.ErrArg)
	asked(t, "A's first", terms(), nil, adds(1, 1), 2, add(0, 1), api.OK)
	asked(t, "a failed one counts", terms(), adds(1, 1), some(fail(0)), 2, add(0, 1), api.ErrArg)
	asked(t, "a failed one counts", terms(), adds(1, 1), some(fail(0)), 2, add(1, 1), api.OK)
}

// P15.2: Slots, Flight, Reserve and Fee, and sums.
func TestMayAdd(t *testing.T) {
	asked(t, "the third", terms(), adds(2, 1), nil, 2, add(2, 1), api.OK)
	asked(t, "the fourth", terms(), adds(3, 1), nil, 2, add(3, 1), api.ErrSlots)
	asked(t, "B's fourth", terms(), nil, adds(3, 1), 5, add(3, 1), api.ErrSlots)
	asked(t, "more than Slots are there", terms(), adds(5, 1), nil, 2, add(5, 1), api.ErrSlots)
	asked(t, "one was settled", terms(), adds(3, 1), some(fulfil(1)), 2, add(3, 1), api.OK)
	asked(t, "B has slots of its own", terms(), adds(3, 1), nil, 5, add(0, 1), api.OK)
	asked(t, "all of Flight", terms(), adds(1, 400), nil, 2, add(1, 200), api.OK)
	asked(t, "more than Flight", terms(), adds(1, 400), nil, 2, add(1, 201), api.ErrFlight)
	asked(t, "what was paid flies no more", terms(), adds(1, 400), some(fulfil(0)), 2, add(1, 201), api.OK)
	asked(t, "what was failed flies no more", terms(), adds(1, 400), some(fail(0)), 2, add(1, 600), api.OK)
	asked(t, "B's Flight", terms(), adds(1, 600), nil, 5, add(0, 480), api.OK)
	asked(t, "MaxMsat", terms(), nil, nil, 2, add(0, api.MaxMsat), api.ErrFlight)
	asked(t, "MaxMsat and more", terms(), adds(1, 1), nil, 2, add(1, api.MaxMsat), api.ErrFlight)
	d := terms()
	d.Flight = api.MaxMsat
	asked(t, "MaxMsat and more, beyond all", d, adds(1, 1), nil, 2, add(1, api.MaxMsat), api.ErrFlight)
	asked(t, "A's Reserve and Fee", d, nil, nil, 2, add(0, 975), api.OK)
	asked(t, "less than A's", d, nil, nil, 2, add(0, 976), api.ErrReserve)
	asked(t, "B's Reserve", d, nil, nil, 5, add(0, 480), api.OK)
	asked(t, "less than B's", d, nil, nil, 5, add(0, 481), api.ErrReserve)
	asked(t, "what A gave is gone", d, adds(1, 500), some(fulfil(0)), 2, add(1, 476), api.ErrReserve)
	asked(t, "what B got is there", d, adds(1, 500), some(fulfil(0)), 5, add(0, 980), api.OK)
	asked(t, "what B may get is not", d, adds(1, 500), nil, 5, add(0, 481), api.ErrReserve)
	asked(t, "MaxMsat is not there", d, nil, nil, 5, add(0, api.MaxMsat), api.ErrReserve)
	d.Reserve, d.Fee = api.MaxMsat, api.MaxMsat
	asked(t, "a Reserve beyond all", d, nil, nil, 2, add(0, 1), api.ErrReserve)
	asked(t, "a Reserve beyond all", d, nil, nil, 5, add(0, 1), api.ErrReserve)
	d.Reserve, d.Fee = 0, 1000
	asked(t, "a Fee that is all", d, nil, nil, 2, add(0, 1), api.ErrReserve)
	asked(t, "B pays none", d, nil, nil, 5, add(0, 500), api.OK)
	asked(t, "Slots ahead of Flight", terms(), adds(3, 1), nil, 2, add(3, 900), api.ErrSlots)
	asked(t, "Flight ahead of Reserve", terms(), nil, nil, 2, add(0, 990), api.ErrFlight)
	asked(t, "Arg ahead of Slots", terms(), adds(3, 1), nil, 2, add(2, 1), api.ErrArg)
}

// P15.2: what went to and fro sums up, though nobody has more.
func TestMayOver(t *testing.T) {
	d := terms()
	d.StartA, d.StartB, d.Flight, d.Fee, d.Reserve = big62, 0, api.MaxMsat, 0, 0
	a, b := some(add(0, big62), fulfil(0)), some(fulfil(0), add(0, big62))
	asked(t, "once more", d, a, b, 2, add(1, big62-1), api.OK)
	asked(t, "once too often", d, a, b, 2, add(1, big62), api.ErrOver)
	asked(t, "it is A's alone", d, a, b, 5, fail(1), api.ErrNone)
	d.Reserve = 1
	asked(t, "Reserve ahead of Over", d, a, b, 2, add(1, big62), api.ErrReserve)
	// What was failed does not count.
	a[0], b[0] = add(0, big62), fail(0)
	d.Reserve = 0
	asked(t, "failed", d, a[:1], b[:1], 2, add(1, big62), api.OK)
}

// P15.2: what settles.
func TestMaySettle(t *testing.T) {
	a, b := adds(3, 10), some(fulfil(1), add(0, 7))
	asked(t, "fulfil", terms(), a, b, 5, fulfil(0), api.OK)
	asked(t, "fail", terms(), a, b, 5, fail(2), api.OK)
	asked(t, "settled", terms(), a, b, 5, fail(1), api.ErrNone)
	asked(t, "settled", terms(), a, b, 5, fulfil(1), api.ErrNone)
	asked(t, "not there", terms(), a, b, 5, fail(3), api.ErrNone)
	asked(t, "far", terms(), a, b, 5, fulfil(api.MaxId), api.ErrNone)
	asked(t, "A's of B's", terms(), a, b, 2, fulfil(0), api.OK)
	asked(t, "A's of A's own", terms(), a, b, 2, fail(2), api.ErrNone)
	asked(t, "another secret", terms(), a, b, 5, with(fulfil(0), func(x *api.Msg) { x.Secret = secretOf(2) }), api.ErrSecret)
	asked(t, "zeros", terms(), a, b, 5, with(fulfil(0), func(x *api.Msg) { x.Secret = [32]byte{} }), api.ErrSecret)
	asked(t, "None ahead of Secret", terms(), a, b, 5, with(fulfil(1), func(x *api.Msg) { x.Secret = secretOf(2) }), api.ErrNone)
	asked(t, "an empty Reason", terms(), a, b, 5, with(fail(0), func(x *api.Msg) { x.Reason = nil }), api.OK)
	asked(t, "the longest Reason", terms(), a, b, 5, with(fail(0), func(x *api.Msg) { x.Reason = make([]byte, api.MaxReason) }), api.OK)
}
