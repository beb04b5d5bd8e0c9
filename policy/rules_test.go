package policy

import (
	"math"
	"slices"
	"testing"

	"tollhouse/api"
)

// edges is rules each of whose fields is at an edge, or one beyond it.
func edges() []api.Rules {
	var l []api.Rules
	put := func(set func(r *api.Rules, n int), values ...int) {
		for _, n := range values {
			r := some()
			set(&r, n)
			l = append(l, r)
		}
	}
	put(func(r *api.Rules, n int) { r.Fees.Base = n }, math.MinInt, -1, 0, 1, math.MaxInt)
	put(func(r *api.Rules, n int) { r.Fees.Rate = n }, math.MinInt, -1, 0, 1, 1000000, 1000001, math.MaxInt)
	put(func(r *api.Rules, n int) { r.Delta = n }, math.MinInt, -1, 0, 1, 1000, 1001, math.MaxInt)
	put(func(r *api.Rules, n int) { r.Grace = n }, math.MinInt, -1, 0, 1, 1000, 1001, math.MaxInt)
	put(func(r *api.Rules, n int) { r.Far = n }, math.MinInt, -1, 0, 1, 2147483647, 2147483648, math.MaxInt)
	return append(l, api.Rules{}, some())
}

// P19.1, P19.2: which rules may be, and what Delta and Grace are together.
func TestMay(t *testing.T) {
	count := 0
	for _, r := range edges() {
		margin := 0
		if plainMay(r) {
			margin = r.Delta + r.Grace
			count++
		}
		if May(r) != plainMay(r) || Margin(r) != margin {
			t.Errorf("%v: %v, %d", r, May(r), Margin(r))
		}
	}
	// By hand: 3 + 3 + 2 + 3 + 2, and the last one.
	if count != 14 {
		t.Errorf("%d may be", count)
	}
	if got := Margin(api.Rules{Delta: 1000, Grace: 1000, Far: 1}); got != 2000 {
		t.Error("the greatest margin", got)
	}
}

func wantExpiries(t *testing.T, hops []api.Rules, last int, want []int, errno api.Errno) {
	t.Helper()
	if l, e := Expiries(hops, last); !slices.Equal(l, want) || e != errno {
		t.Errorf("Expiries(%v, %d): %v, %d, want %v, %d", hops, last, l, e, want, errno)
	}
}

// of is rules of these Deltas.
func of(deltas ...int) []api.Rules {
	var l []api.Rules
	for _, n := range deltas {
		r := some()
		r.Delta = n
		l = append(l, r)
	}
	return l
}

// P19.3: expiries, by hand.
func TestExpiries(t *testing.T) {
	wantExpiries(t, nil, 0, []int{0}, api.OK)
	wantExpiries(t, []api.Rules{}, 7, []int{7}, api.OK)
	wantExpiries(t, nil, api.MaxExpiry, []int{api.MaxExpiry}, api.OK)
	wantExpiries(t, of(5), 50, []int{55, 50}, api.OK)
	wantExpiries(t, of(1, 20, 300), 4000, []int{4321, 4320, 4300, 4000}, api.OK)
	wantExpiries(t, of(300, 20, 1), 0, []int{321, 21, 1, 0}, api.OK)
	wantExpiries(t, of(3, 4), api.MaxExpiry-7, []int{api.MaxExpiry, api.MaxExpiry - 3, api.MaxExpiry - 7}, api.OK)
	wantExpiries(t, of(1, 3, 4), api.MaxExpiry-7, nil, api.ErrOver)
	wantExpiries(t, of(3, 4), api.MaxExpiry-6, nil, api.ErrOver)
	wantExpiries(t, of(1), api.MaxExpiry, nil, api.ErrOver)
	for _, last := range []int{-1, math.MinInt, api.MaxExpiry + 1, math.MaxInt} {
		wantExpiries(t, nil, last, nil, api.ErrArg)
		wantExpiries(t, of(5), last, nil, api.ErrArg)
	}
	// Rules that may not be go ahead of what is too far, wherever they stand.
	for i := range 3 {
		hops := of(5, 5, 5)
		hops[i].Far = 0
		wantExpiries(t, hops, 50, nil, api.ErrArg)
		wantExpiries(t, hops, api.MaxExpiry, nil, api.ErrArg)
	}
	for _, r := range edges() {
		l, e := plainExpiries([]api.Rules{r}, 9)
		wantExpiries(t, []api.Rules{r}, 9, l, e)
	}
}

// P19.3: a way may be as long as one likes.
func TestExpiriesLong(t *testing.T) {
	hops := make([]api.Rules, 5000)
	for i := range hops {
		hops[i] = of(1 + i%1000)[0]
	}
	// Five times 1 to 1000.
	all := 5 * 500500
	for last, want := range map[int]api.Errno{3: api.OK, api.MaxExpiry - all: api.OK, api.MaxExpiry - all + 1: api.ErrOver} {
		l, e := Expiries(hops, last)
		if e != want || e == api.OK && (len(l) != 5001 || l[0] != last+all || l[4999] != last+1000) || e != api.OK && len(l) != 0 {
			t.Errorf("a long way to %d: %d expiries, %d", last, len(l), e)
		}
	}
}

// R3: what is handed in is not changed, and answers are new memory.
func TestExpiriesMemory(t *testing.T) {
	room := of(5, 6, 7, 8)
	was := slices.Clone(room)
	l, _ := Expiries(room[:2], 10)
	m, _ := Expiries(room[:2], 10)
	for i := range l {
		l[i] = -1
	}
	l = append(l, -1)
	if !slices.Equal(room, was) || !slices.Equal(m, []int{21, 16, 10}) {
		t.Error("something is shared", room, m)
	}
	wantExpiries(t, room[:2], 10, []int{21, 16, 10}, api.OK)
}
