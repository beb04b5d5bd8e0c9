package deal

import (
	"math"
	"math/rand"
	"reflect"
	"testing"

	"tollhouse/api"
	"tollhouse/chain"
)

// P14.1: the output that pays for the channel.
func TestFund(t *testing.T) {
	want := api.Out{Amount: 150, Paths: []api.Path{{A: 1, B: 4, Two: true}}}
	if got := Fund(terms()); !reflect.DeepEqual(got, want) {
		t.Errorf("Fund = %v, want %v", got, want)
	}
	d := terms()
	d.StartA, d.StartB = 1, api.MaxMsat-1
	if got := Fund(d); got.Amount != api.MaxMsat {
		t.Error("Fund of MaxMsat", got)
	}
}

// P14.2: the chapter's example, and a commitment of each of the two, written out.
func TestCommit(t *testing.T) {
	x, e := Commit(api.Terms{Channel: 1, B: 1, StartA: 100, StartB: 50, Delay: 1, Fee: 1, Slots: 1}, 0, [32]byte{7}, api.View{A: 100, B: 50})
	if e != api.OK || len(x.Outs) != 2 || x.Outs[0].Amount != 99 || x.Outs[1].Amount != 50 {
		t.Error("the example", x, e)
	}
	point := [32]byte{31: 7}
	v := view()
	h := v.Htlcs
	back := func(node int) api.Path { return api.Path{A: node, Hash: point} }
	ins := []api.In{{Ref: api.Ref{Tx: [32]byte{9}, Out: 2}}}
	for holder, want := range map[int][]api.Out{
		1: {
			{Amount: 59, Paths: []api.Path{{A: 1, Delay: 2}, back(4)}},
			{Amount: 20, Paths: []api.Path{{A: 4}}},
			{Amount: 30, Paths: []api.Path{{A: 4, Hash: h[0].Hash}, {A: 1, Height: 9, Delay: 2}, back(4)}},
			{Amount: 0, Paths: []api.Path{{A: 4, Hash: h[1].Hash}, {A: 1, Delay: 2}, back(4)}},
			{Amount: 20, Paths: []api.Path{{A: 4, Hash: h[2].Hash}, {A: 1, Height: api.MaxExpiry, Delay: 2}, back(4)}},
			{Amount: 15, Paths: []api.Path{{A: 1, Hash: h[3].Hash, Delay: 2}, {A: 4, Height: 8}, back(4)}},
			{Amount: 5, Paths: []api.Path{{A: 1, Hash: h[4].Hash, Delay: 2}, {A: 4, Height: 7}, back(4)}},
		},
		4: {
			{Amount: 20, Paths: []api.Path{{A: 4, Delay: 2}, back(1)}},
			{Amount: 59, Paths: []api.Path{{A: 1}}},
			{Amount: 30, Paths: []api.Path{{A: 4, Hash: h[0].Hash, Delay: 2}, {A: 1, Height: 9}, back(1)}},
			{Amount: 0, Paths: []api.Path{{A: 4, Hash: h[1].Hash, Delay: 2}, {A: 1}, back(1)}},
			{Amount: 20, Paths: []api.Path{{A: 4, Hash: h[2].Hash, Delay: 2}, {A: 1, Height: api.MaxExpiry}, back(1)}},
			{Amount: 15, Paths: []api.Path{{A: 1, Hash: h[3].Hash}, {A: 4, Height: 8, Delay: 2}, back(1)}},
			{Amount: 5, Paths: []api.Path{{A: 1, Hash: h[4].Hash}, {A: 4, Height: 7, Delay: 2}, back(1)}},
		},
	} {
		x, e := Commit(terms(), holder, point, v)
		if e != api.OK || !reflect.DeepEqual(x, api.Tx{Ins: ins, Outs: want}) {
			t.Errorf("Commit of %d = %v, %d, want %v", holder, x, e, want)
		}
	}
}

// P14.2: A pays the Fee, whoever holds the commitment; with all it has, if it is not above.
func TestCommitFee(t *testing.T) {
	for _, c := range []struct{ fee, a, want int }{
		{0, 0, 0}, {0, 60, 60}, {1, 0, 0}, {59, 60, 1}, {60, 60, 0}, {61, 60, 0}, {api.MaxMsat, 60, 0}, {1, 150, 149},
	} {
		d := terms()
		d.Fee = c.fee
		v := api.View{A: c.a, B: 150 - c.a}
		for holder, place := range map[int]int{1: 0, 4: 1} {
			x, e := Commit(d, holder, [32]byte{7}, v)
			if e != api.OK || x.Outs[place].Amount != c.want || x.Outs[1-place].Amount != v.B {
				t.Errorf("Fee %d, A %d, holder %d: %v, %d", c.fee, c.a, holder, x.Outs, e)
			}
		}
	}
}

// P14.2: what Commit refuses, beside terms and views that may not be.
func TestCommitRefused(t *testing.T) {
	for _, holder := range []int{-1, 0, 2, 3, 5, 8, math.MinInt, math.MaxInt} {
		if x, e := Commit(terms(), holder, [32]byte{7}, view()); e != api.ErrArg || x.Ins != nil || x.Outs != nil {
			t.Errorf("Commit of %d = %v, %d", holder, x, e)
		}
	}
	if x, e := Commit(terms(), 1, [32]byte{}, view()); e != api.ErrArg || x.Ins != nil || x.Outs != nil {
		t.Error("a point of zeros", x, e)
	}
}

// P14.2: which output an Htlc is, and that it is that one.
func TestPlace(t *testing.T) {
	v := view()
	x, _ := Commit(terms(), 4, [32]byte{7}, v)
	for i, h := range v.Htlcs {
		n, ok := Place(v, h.By, h.Id)
		if n != 2+i || !ok || x.Outs[n].Paths[0].Hash != h.Hash || x.Outs[n].Amount != h.Amount {
			t.Errorf("Place(%d, %d) = %d, %v", h.By, h.Id, n, ok)
		}
	}
	for _, c := range []struct{ by, id int }{{1, 1}, {4, 0}, {4, 7}, {2, 0}, {-1, -1}, {0, 0}, {math.MaxInt, math.MinInt}} {
		if n, ok := Place(v, c.by, c.id); n != 0 || ok {
			t.Errorf("Place(%d, %d) = %d, %v", c.by, c.id, n, ok)
		}
	}
	if n, ok := Place(api.View{}, 0, 0); n != 0 || ok {
		t.Error("of no Htlcs", n, ok)
	}
}

// P14.2: claims, and what they refuse.
func TestClaim(t *testing.T) {
	ins := []api.In{
		{Ref: api.Ref{Tx: [32]byte{5}, Out: 3}, Path: 2, Secret: [32]byte{6}, TagA: [32]byte{7}, TagB: [32]byte{8}},
		{Ref: api.Ref{Tx: [32]byte{5}, Out: 1}},
	}
	for _, c := range []struct {
		node, ins, sum int
		want           int
		e              api.Errno
	}{
		{1, 2, 59, 58, api.OK},
		{4, 1, 59, 58, api.OK},
		{4, 2, 0, 0, api.OK},
		{4, 2, 1, 0, api.OK},
		{4, 2, 2, 1, api.OK},
		{1, 64, api.MaxMsat, api.MaxMsat - 1, api.OK},
		{1, 65, 10, 0, api.ErrArg},
		{1, 0, 10, 0, api.ErrArg},
		{1, 2, -1, 0, api.ErrArg},
		{1, 2, math.MinInt, 0, api.ErrArg},
		{0, 2, 10, 0, api.ErrArg},
		{5, 2, 10, 0, api.ErrArg},
		{-1, 2, 10, 0, api.ErrArg},
	} {
		l := append([]api.In(nil), ins[:min(c.ins, 2)]...)
		for len(l) < c.ins {
			l = append(l, api.In{Ref: api.Ref{Out: len(l)}})
		}
		x, e := Claim(terms(), c.node, l, c.sum)
		var want api.Tx
		if c.e == api.OK {
			want = api.Tx{Ins: l, Outs: []api.Out{{Amount: c.want, Paths: []api.Path{{A: c.node}}}}}
		}
		if e != c.e || !reflect.DeepEqual(x, want) {
			t.Errorf("Claim for %d of %d inputs, %d = %v, %d, want %v, %d", c.node, c.ins, c.sum, x, e, want, c.e)
		}
		if e == api.OK && !chain.May(8, x) {
			t.Error("P14.3: a claim that may not be", x)
		}
	}
}

// anyTerms are terms that may be, with edges among them.
func anyTerms(r *rand.Rand) api.Terms {
	a := r.Intn(7)
	sums := []int{0, 1, 7, 1000, 1 << 40, api.MaxMsat / 2}
	d := api.Terms{
		Channel: 1 + r.Intn(api.MaxChannel), A: a, B: a + 1 + r.Intn(7-a),
		StartA: sums[r.Intn(6)], StartB: sums[r.Intn(6)],
		Delay: 1 + r.Intn(5), Fee: sums[r.Intn(6)], Reserve: sums[r.Intn(6)], Slots: 1 + r.Intn(16), Flight: sums[r.Intn(6)],
	}
	d.Fund.Out = r.Intn(3)
	return d
}

// anyView is a view that fits d. Its i-th Htlc has the hash of secretOf(i).
func anyView(r *rand.Rand, d api.Terms) api.View {
	v := api.View{A: d.StartA + d.StartB}
	take := func(most int) int {
		n := 0
		if most > 0 {
			n = r.Intn(most)
		}
		v.A -= n
		return n
	}
	v.B = take(v.A)
	ofA := r.Intn(17)
	id := 0
	for i := range ofA + r.Intn(17) {
		by := d.A
		if i >= ofA {
			by = d.B
		}
		if i == ofA {
			id = 0
		}
		id += r.Intn(3)
		v.Htlcs = append(v.Htlcs, api.Htlc{By: by, Id: id, Amount: take(v.A / 4), Hash: hashOf(i), Expiry: r.Intn(12)})
		id++
	}
	return v
}

// P14.3: commitments may be, and have what the channel has, less at most the Fee.
func TestCommitments(t *testing.T) {
	r := rand.New(rand.NewSource(7))
	for range 3000 {
		d := anyTerms(r)
		v := anyView(r, d)
		if !May(d) || !Fits(d, v) {
			t.Fatalf("%v, %v do not fit", d, v)
		}
		for _, holder := range []int{d.A, d.B} {
			x, e := Commit(d, holder, [32]byte{7}, v)
			if e != api.OK || !chain.May(8, x) || !chain.May(d.B+1, x) {
				t.Fatalf("Commit(%v, %d, %v) = %v, %d", d, holder, v, x, e)
			}
			sum := 0
			for _, out := range x.Outs {
				sum += out.Amount
			}
			if less := d.StartA + d.StartB - sum; less < 0 || less > d.Fee || less != min(d.Fee, v.A) {
				t.Fatalf("a commitment of %v has %d less", d, less)
			}
		}
	}
}

// R3: nothing that is handed in is changed or kept, and what is answered shares nothing.
func TestMemory(t *testing.T) {
	v := view()
	room := append(append(make([]api.Htlc, 0, 8), v.Htlcs...), api.Htlc{Id: 77})
	v.Htlcs = room[:5]
	want, _ := Commit(terms(), 1, [32]byte{7}, view())
	got, _ := Commit(terms(), 1, [32]byte{7}, v)
	Place(v, 4, 1)
	if !reflect.DeepEqual(v, view()) || room[5].Id != 77 {
		t.Error("the view was changed")
	}
	clear(room)
	if !reflect.DeepEqual(got, want) {
		t.Error("the view was kept")
	}
	for i := range got.Outs {
		paths := got.Outs[i].Paths
		clear(paths[:cap(paths)])
		got.Outs[i].Paths = want.Outs[i].Paths
		if !reflect.DeepEqual(got, want) {
			t.Fatal("paths of two outputs are one list")
		}
	}
	again, _ := Commit(terms(), 1, [32]byte{7}, view())
	if !reflect.DeepEqual(again, want) {
		t.Error("what was answered is kept")
	}

	ins := []api.In{{Path: 1}, {Path: 2, Ref: api.Ref{Out: 2}}, {Path: 3}}
	claim, _ := Claim(terms(), 1, ins[:2], 10)
	if len(claim.Ins) != 2 || ins[2].Path != 3 {
		t.Error("Claim", claim.Ins, ins)
	}
	claim.Ins = append(claim.Ins, api.In{Path: 9})
	claim.Ins[0].Path = 9
	if ins[0].Path != 1 || ins[2].Path != 3 {
		t.Error("a claim's inputs are those that were handed in", ins)
	}
}
