package updates

import (
	"math/rand"
	"reflect"
	"testing"

	"tollhouse/api"
	"tollhouse/deal"
	"tollhouse/mac"
)

// anyUpdate is an update that likely may be sent.
func anyUpdate(r *rand.Rand, own, others []api.Msg) api.Msg {
	switch n := Adds(others, len(others)); {
	case n > 0 && r.Intn(2) == 0:
		id := r.Intn(n + 1)
		if r.Intn(2) == 0 {
			return fulfil(id)
		}
		return fail(id)
	}
	sums := []int{0, 1, 10, 100, 1 << 61, big62, api.MaxMsat}
	return add(Adds(own, len(own)), sums[r.Intn(len(sums))])
}

// spoiled is x with something wrong, perhaps.
func spoiled(r *rand.Rand, x api.Msg) api.Msg {
	switch r.Intn(60) {
	case 0:
		x.Kind = r.Intn(8)
	case 1:
		x.Id += r.Intn(5) - 2
	case 2:
		x.Channel++
	case 3:
		x.Secret[0]++
	case 4:
		x.Hash = [32]byte{}
	case 5:
		x.Expiry = -1
	case 6:
		x.Onion = nil
	}
	return x
}

func anyTerms(r *rand.Rand) api.Terms {
	sums := []int{0, 1, 20, 1000, 1 << 61, big62 - 1}
	any := func() int { return sums[r.Intn(len(sums))] }
	return api.Terms{Channel: 7, A: 2, B: 5, StartA: any(), StartB: any(), Delay: 1, Fee: any() / (1 + r.Intn(9)), Reserve: any() / (1 + r.Intn(30)), Slots: 1 + r.Intn(16), Flight: any()}
}

// P15.1 to P15.3: lists that grow by what may be sent, and by some that may not; each answer held against the document's words.
func TestAgainstPlain(t *testing.T) {
	told, seen := map[api.Errno]int{}, map[api.Errno]int{}
	for seed := range 400 {
		r := rand.New(rand.NewSource(int64(seed)))
		d := anyTerms(r)
		lists := map[int][]api.Msg{}
		for range 60 {
			by := []int{2, 5}[r.Intn(2)]
			x := spoiled(r, anyUpdate(r, lists[by], lists[deal.Other(d, by)]))
			a, b := lists[2], lists[5]
			got, want := May(d, a, b, by, x), plainMay(d, a, b, by, x)
			if got != want {
				t.Fatalf("seed %d: May = %d, want %d", seed, got, want)
			}
			told[got]++
			if got == api.OK || r.Intn(300) == 0 {
				lists[by] = append(lists[by], x)
			}
			a, b = lists[2], lists[5]
			if v, e := View(d, a, b, len(a), len(b)); got == api.OK && (e != api.OK || !deal.Fits(d, v)) {
				t.Fatalf("seed %d: behind what may be sent: %v, %d", seed, v, e)
			}
			n, m := r.Intn(len(a)+1), r.Intn(len(b)+1)
			v, e := View(d, a, b, n, m)
			w, f := plainView(d, a, b, n, m)
			if e != f || !sameView(v, w) {
				t.Fatalf("seed %d: View = %v, %d, want %v, %d", seed, v, e, w, f)
			}
			if e == api.OK && !deal.Fits(d, v) {
				t.Fatalf("seed %d: does not fit: %v", seed, v)
			}
			seen[e]++
		}
	}
	for _, e := range []api.Errno{api.OK, api.ErrArg, api.ErrNone, api.ErrSlots, api.ErrFlight, api.ErrReserve, api.ErrSecret, api.ErrOver} {
		if told[e] < 20 {
			t.Errorf("May answered %d only %d times", e, told[e])
		}
	}
	for _, e := range []api.Errno{api.OK, api.ErrArg, api.ErrNone, api.ErrReserve} {
		if seen[e] < 20 {
			t.Errorf("View answered %d only %d times", e, seen[e])
		}
	}
}

// P15.1: lists of whatever amounts, in any order.
func TestViewAgainstPlain(t *testing.T) {
	seen := map[api.Errno]int{}
	for seed := range 4000 {
		r := rand.New(rand.NewSource(int64(seed)))
		d := anyTerms(r)
		var lists [2][]api.Msg
		for i := range lists {
			sum := []int{1, 1, 1 << 60, big62}[r.Intn(4)]
			for id := range r.Intn(30) {
				lists[i] = append(lists[i], add(id, 1+r.Intn(sum)))
			}
		}
		for i := range lists {
			open := r.Intn(5)
			for id := range Adds(lists[1-i], 30) {
				if r.Intn(5) >= open {
					x := []api.Msg{fulfil(id), fail(id)}[r.Intn(2)]
					at := r.Intn(len(lists[i]) + 1)
					lists[i] = append(lists[i][:at:at], append([]api.Msg{x}, lists[i][at:]...)...)
				}
			}
		}
		a, b := lists[0], lists[1]
		v, e := View(d, a, b, len(a), len(b))
		w, f := plainView(d, a, b, len(a), len(b))
		if e != f || !sameView(v, w) {
			t.Fatalf("seed %d: View = %v, %d, want %v, %d", seed, v, e, w, f)
		}
		seen[e]++
	}
	for _, e := range []api.Errno{api.OK, api.ErrOver, api.ErrReserve, api.ErrSlots} {
		if seen[e] < 20 {
			t.Errorf("View answered %d only %d times", e, seen[e])
		}
	}
}

// R3: what is handed in is not changed, with the room behind it; views share nothing.
func TestMemory(t *testing.T) {
	a := append(make([]api.Msg, 0, 8), add(0, 100), add(1, 10), fulfil(0))
	b := append(make([]api.Msg, 0, 8), add(0, 50), fail(1))
	for i := range 3 {
		a[:8][3+i], b[:8][2+i] = add(77, 77), add(77, 77)
	}
	aheadA, aheadB := append([]api.Msg(nil), a[:8]...), append([]api.Msg(nil), b[:8]...)
	v, _ := View(terms(), a, b, 3, 2)
	w, _ := View(terms(), a, b, 3, 2)
	if May(terms(), a, b, 2, add(2, 1)) != api.OK || May(terms(), a, b, 5, fulfil(0)) != api.OK {
		t.Error("May")
	}
	clear(v.Htlcs[:cap(v.Htlcs)])
	if !reflect.DeepEqual(w.Htlcs, []api.Htlc{htlc(2, 0, 100)}) {
		t.Error("views share", w)
	}
	if !reflect.DeepEqual(a[:8], aheadA) || !reflect.DeepEqual(b[:8], aheadB) {
		t.Error("lists changed")
	}
	h, _ := Find(w, 2, 0)
	h.Amount = 5
	if w.Htlcs[0].Amount != 100 || h.Hash != mac.Hash(secretOf(0)) {
		t.Error("Find")
	}
}
