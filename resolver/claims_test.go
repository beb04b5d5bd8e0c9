package resolver

import (
	"math"
	"math/rand"
	"reflect"
	"testing"

	"tollhouse/api"
	"tollhouse/chain"
	"tollhouse/deal"
	"tollhouse/mac"
)

// pointSecret is the secret of all commitments' points.
func pointSecret() [32]byte { return [32]byte{8} }

// closedAs is how node sees it that holder's commitment was published in the block at.
func closedAs(t *testing.T, d api.Terms, kind, node int, v api.View, at int) api.Closed {
	t.Helper()
	holder := deal.Other(d, node)
	if kind == api.ClosedOwn {
		holder = node
	}
	x, e := deal.Commit(d, holder, mac.Hash(pointSecret()), v)
	if e != api.OK {
		t.Fatal("Commit", e)
	}
	z := api.Closed{Kind: kind, View: v, Tx: x, At: at}
	if kind == api.ClosedRevoked {
		z.View, z.Secret = api.View{}, pointSecret()
	}
	return z
}

// bent is z, changed so that it is not as it should be.
func bent(r *rand.Rand, z api.Closed) api.Closed {
	switch r.Intn(8) {
	case 0:
		z.Tx.Outs = z.Tx.Outs[:r.Intn(len(z.Tx.Outs)+1)]
	case 1:
		for i := range z.Tx.Outs {
			z.Tx.Outs[i].Paths = z.Tx.Outs[i].Paths[:r.Intn(len(z.Tx.Outs[i].Paths)+1)]
		}
	case 2:
		z.View.Htlcs = z.View.Htlcs[:r.Intn(len(z.View.Htlcs)+1)]
	case 3:
		z.Kind = r.Intn(7) - 1
	case 4:
		z.Tx.Outs = append(z.Tx.Outs, z.Tx.Outs...)
	case 5:
		z.At = []int{math.MinInt, math.MaxInt, -1}[r.Intn(3)]
	case 6:
		z.Tx.Ins = nil
	case 7:
		for i := range z.Tx.Outs {
			z.Tx.Outs[i].Amount = []int{-1, math.MinInt, math.MaxInt, 0}[r.Intn(4)]
		}
	}
	return z
}

// P17.2, P17.3: Claims and Over by the document's table, of commitments that are as they should be, and of others.
func TestClaimsTable(t *testing.T) {
	r := rand.New(rand.NewSource(1))
	claimed := map[int]int{}
	for n := range 20000 {
		d := anyTerms(r)
		v := anyView(r, d)
		node := nodes[r.Intn(2)]
		kind := api.ClosedOwn + r.Intn(3)
		z := closedAs(t, d, kind, node, v, r.Intn(8))
		if n%4 == 0 {
			z = bent(r, z)
		}
		height, spent, known := r.Intn(20), anySpent(r), anyKnown(r)
		if r.Intn(20) == 0 {
			height = []int{math.MinInt, math.MaxInt, -3}[r.Intn(3)]
		}
		got, want := Claims(d, node, keyOf(0), z, height, spent, known), plainClaims(d, node, keyOf(0), z, height, spent, known)
		if !sameTxs(got, want) {
			t.Fatalf("Claims(%v, %d, .., %v, %d, %v) = %v, want %v", d, node, z, height, spent, got, want)
		}
		claimed[z.Kind] += len(got)
		fee := d.Fee + r.Intn(3) - 1
		if got, want := Over(z, fee, spent), plainOver(z, fee, spent); got != want {
			t.Fatalf("Over(%v, %d, %v) = %v", z, fee, spent, got)
		}
	}
	for kind := api.ClosedOwn; kind <= api.ClosedRevoked; kind++ {
		if claimed[kind] < 1000 {
			t.Error("of the kind", kind, "were claimed", claimed[kind])
		}
	}
}

// places is which outputs the claims are of, by which paths.
func places(l []api.Tx) [][2]int {
	p := [][2]int{}
	for _, x := range l {
		p = append(p, [2]int{x.Ins[0].Ref.Out, x.Ins[0].Path})
	}
	return p
}

// someView has an Htlc of A's (Expiry 9, secret 0) and one of B's (Expiry 9, secret 1).
func someView() api.View {
	return api.View{A: 800, B: 400, Htlcs: []api.Htlc{
		{By: nodes[0], Id: 0, Amount: 200, Hash: hashOf(0), Expiry: 9},
		{By: nodes[1], Id: 0, Amount: 100, Hash: hashOf(1), Expiry: 9},
	}}
}

func wantPlaces(t *testing.T, name string, l []api.Tx, want ...[2]int) {
	t.Helper()
	if got := places(l); len(got)+len(want) > 0 && !reflect.DeepEqual(got, want) {
		t.Errorf("%s: %v, want %v", name, got, want)
	}
}

// P17.2: what is open from which block on, of all kinds; the document's example among it.
func TestClaimsHeights(t *testing.T) {
	d, v, node := terms(), someView(), nodes[0]
	known := [][32]byte{secretOf(1)}
	claims := func(kind, height int, known [][32]byte) []api.Tx {
		return Claims(d, node, keyOf(0), closedAs(t, d, kind, node, v, 4), height, nil, known)
	}
	own, other, revoked := api.ClosedOwn, api.ClosedOther, api.ClosedRevoked
	wantPlaces(t, "own, ahead of the delay", claims(own, 6, known))
	wantPlaces(t, "own, behind the delay", claims(own, 7, nil), [2]int{0, 0})
	wantPlaces(t, "own, with a secret", claims(own, 7, known), [2]int{0, 0}, [2]int{3, 0})
	wantPlaces(t, "own, ahead of the expiry", claims(own, 8, nil), [2]int{0, 0})
	wantPlaces(t, "own, from the expiry on", claims(own, 9, nil), [2]int{0, 0}, [2]int{2, 1})
	wantPlaces(t, "own, all", claims(own, 9, known), [2]int{0, 0}, [2]int{2, 1}, [2]int{3, 0})
	wantPlaces(t, "other, at once", claims(other, 4, nil), [2]int{1, 0})
	wantPlaces(t, "other, with a secret", claims(other, 5, known), [2]int{1, 0}, [2]int{3, 0})
	wantPlaces(t, "other, ahead of the expiry", claims(other, 8, nil), [2]int{1, 0})
	wantPlaces(t, "other, from the expiry on", claims(other, 9, nil), [2]int{1, 0}, [2]int{2, 1})
	wantPlaces(t, "other, another secret", claims(other, 5, [][32]byte{secretOf(0), hashOf(1), {}}), [2]int{1, 0})
	wantPlaces(t, "revoked", claims(revoked, 0, nil), [2]int{0, 1}, [2]int{1, 0}, [2]int{2, 2}, [2]int{3, 2})
	wantPlaces(t, "strange", claims(api.ClosedStrange, 100, known))
	wantPlaces(t, "no kind", claims(0, 100, known))

	v.Htlcs[0].Expiry = 5
	wantPlaces(t, "own, expired, ahead of the delay", claims(own, 6, known))
	wantPlaces(t, "own, expired, behind the delay", claims(own, 7, nil), [2]int{0, 0}, [2]int{2, 1})
}

// P17.2: a claim is whole: its input, the secret, the tag; and its output, less the Fee.
func TestClaimsWhole(t *testing.T) {
	d, node := terms(), nodes[1]
	for kind, secrets := range map[int][][32]byte{
		api.ClosedOwn:     {{}, secretOf(0), {}},
		api.ClosedOther:   {{}, secretOf(0), {}},
		api.ClosedRevoked: {pointSecret(), {}, pointSecret(), pointSecret()},
	} {
		z := closedAs(t, d, kind, node, someView(), 1)
		l := Claims(d, node, keyOf(1), z, 50, nil, [][32]byte{secretOf(5), secretOf(0)})
		if len(l) != len(secrets) {
			t.Fatal("kind", kind, len(l))
		}
		for i, x := range l {
			id, ref := chain.Id(x), api.Ref{Tx: chain.Id(z.Tx), Out: x.Ins[0].Ref.Out}
			want := api.In{Ref: ref, Path: x.Ins[0].Path, Secret: secrets[i], TagA: mac.Tag(keyOf(1), "tx", id[:])}
			if len(x.Ins) != 1 || x.Ins[0] != want {
				t.Error("kind", kind, "input", x.Ins)
			}
			out := api.Out{Amount: z.Tx.Outs[ref.Out].Amount - d.Fee, Paths: []api.Path{{A: node}}}
			if !reflect.DeepEqual(x.Outs, []api.Out{out}) {
				t.Error("kind", kind, "output", x.Outs, "want", out)
			}
		}
	}
}

// P17.2: what is spent is not claimed; what stands behind the end of spent is not spent.
func TestClaimsSpent(t *testing.T) {
	d, node := terms(), nodes[0]
	claims := func(kind int, spent ...bool) []api.Tx {
		return Claims(d, node, keyOf(0), closedAs(t, d, kind, node, someView(), 1), 50, spent, [][32]byte{secretOf(1)})
	}
	wantPlaces(t, "the first", claims(api.ClosedOwn, true), [2]int{2, 1}, [2]int{3, 0})
	wantPlaces(t, "another one's", claims(api.ClosedOwn, false, true), [2]int{0, 0}, [2]int{2, 1}, [2]int{3, 0})
	wantPlaces(t, "an Htlc", claims(api.ClosedOther, true, false, true), [2]int{1, 0}, [2]int{3, 0})
	wantPlaces(t, "some", claims(api.ClosedRevoked, false, true, false, true), [2]int{0, 1}, [2]int{2, 2})
	wantPlaces(t, "all", claims(api.ClosedRevoked, true, true, true, true))
	wantPlaces(t, "more than there are", claims(api.ClosedOther, true, true, true, false, true, true), [2]int{3, 0})
}

// P17.2: an output that is not above the Fee is not worth it.
func TestClaimsFee(t *testing.T) {
	d, node := terms(), nodes[0]
	v := api.View{A: 1400, B: 100}
	for _, x := range []struct{ fee, want int }{{99, 2}, {100, 1}, {101, 1}, {699, 1}, {700, 0}, {1400, 0}, {api.MaxMsat, 0}} {
		d.Fee = x.fee
		l := Claims(d, node, keyOf(0), closedAs(t, d, api.ClosedRevoked, node, v, 1), 50, nil, nil)
		if len(l) != x.want {
			t.Error("Fee", x.fee, places(l))
		}
		for _, tx := range l {
			if tx.Outs[0].Amount < 1 {
				t.Error("Fee", x.fee, "claims", tx.Outs[0].Amount)
			}
		}
	}
}

// P17.2: terms that may not be, and nodes that are neither.
func TestClaimsWrong(t *testing.T) {
	d, v := terms(), someView()
	for _, kind := range []int{api.ClosedOwn, api.ClosedOther, api.ClosedRevoked} {
		z := closedAs(t, d, kind, nodes[0], v, 1)
		for _, node := range []int{-1, 0, 2, 3, 5, 100} {
			if l := Claims(d, node, keyOf(0), z, 50, nil, nil); len(l) != 0 {
				t.Error("node", node, places(l))
			}
		}
		for i, change := range []func(d *api.Terms){
			func(d *api.Terms) { d.Channel = 0 },
			func(d *api.Terms) { d.Delay = 0 },
			func(d *api.Terms) { d.Delay = -1 },
			func(d *api.Terms) { d.Fee = -1 },
			func(d *api.Terms) { d.Slots = 17 },
			func(d *api.Terms) { d.A, d.B = d.B, d.A },
		} {
			wrong := d
			change(&wrong)
			if l := Claims(wrong, nodes[0], keyOf(0), z, 50, nil, nil); len(l) != 0 {
				t.Error("terms", i, places(l))
			}
		}
		if l := Claims(d, nodes[0], keyOf(0), z, 50, nil, nil); len(l) == 0 {
			t.Error("nothing is claimed")
		}
	}
}

// P17.2: an output that is not there, or has not that path, is not claimed; an Htlc by neither of the two is nobody's.
func TestClaimsMissing(t *testing.T) {
	d, node := terms(), nodes[0]
	known := [][32]byte{secretOf(0), secretOf(1)}
	z := closedAs(t, d, api.ClosedOther, node, someView(), 1)
	claims := func() []api.Tx { return Claims(d, node, keyOf(0), z, 50, nil, known) }
	z.View.Htlcs = append(z.View.Htlcs, z.View.Htlcs...)
	wantPlaces(t, "more Htlcs than outputs", claims(), [2]int{1, 0}, [2]int{2, 1}, [2]int{3, 0})
	z.Tx.Outs[2].Paths = z.Tx.Outs[2].Paths[:1]
	wantPlaces(t, "no second path", claims(), [2]int{1, 0}, [2]int{3, 0})
	z.Tx.Outs[1].Paths = nil
	wantPlaces(t, "no path", claims(), [2]int{3, 0})
	z.View.Htlcs[1].By = 6
	wantPlaces(t, "by neither", claims())
	z.Tx.Outs = z.Tx.Outs[:1]
	wantPlaces(t, "one output", claims())
	z.Tx = api.Tx{}
	wantPlaces(t, "none", claims())
	z = closedAs(t, d, api.ClosedRevoked, node, someView(), 1)
	z.View = someView()
	z.View.Htlcs = nil
	for i := range z.Tx.Outs {
		z.Tx.Outs[i].Paths = z.Tx.Outs[i].Paths[:len(z.Tx.Outs[i].Paths)-1]
	}
	wantPlaces(t, "revoked, a path less", claims())
}

// P17.2: heights at the ends of numbers.
func TestClaimsEnds(t *testing.T) {
	d, node := terms(), nodes[0]
	for _, x := range []struct {
		at, height int
		want       bool
	}{
		{math.MaxInt, math.MaxInt, false}, {math.MaxInt - 3, math.MaxInt, true}, {math.MaxInt - 2, math.MaxInt, false},
		{math.MinInt, math.MaxInt, true}, {math.MinInt, math.MinInt, false}, {math.MinInt, math.MinInt + 3, true}, {math.MinInt, math.MinInt + 2, false},
		{math.MaxInt, math.MinInt, false}, {0, math.MinInt, false}, {-1, 2, true}, {-1, 1, false}, {math.MinInt, 0, true}, {0, math.MaxInt, true},
		{math.MaxInt, 1, false}, {math.MaxInt, -1, false}, {5, 4, false},
	} {
		l := Claims(d, node, keyOf(0), closedAs(t, d, api.ClosedOwn, node, api.View{A: 1400, B: 100}, x.at), x.height, nil, nil)
		if (len(l) == 1) != x.want {
			t.Error("At", x.at, "height", x.height, places(l))
		}
	}
}

// R3: what is handed in is not changed, what is answered is new.
func TestClaimsMemory(t *testing.T) {
	d, node := terms(), nodes[0]
	z := closedAs(t, d, api.ClosedOther, node, someView(), 1)
	z.Tx = roomy(z.Tx)
	z.View.Htlcs = wide(z.View.Htlcs, api.Htlc{Amount: 77})
	spent, known := wide([]bool{true}, true), wide([][32]byte{secretOf(1)}, secretOf(0))
	before := whole(z.Tx)
	l := Claims(d, node, keyOf(0), z, 50, spent, known)
	want := plainClaims(d, node, keyOf(0), z, 50, spent, known)
	Over(z, 1, spent)
	Due(d, node, z.View, 50, 1, known)
	Shown(z, 3, l[0])
	if !sameTx(whole(z.Tx), before) || !reflect.DeepEqual(spent[:4], []bool{true, true, true, true}) ||
		known[0] != secretOf(1) || known[:4][3] != secretOf(0) || z.View.Htlcs[:5][4].Amount != 77 || !reflect.DeepEqual(z.View, someView()) {
		t.Error("something changed")
	}
	spoil(z.Tx)
	clear(known)
	if !sameTxs(l, want) || len(l) != 3 {
		t.Fatal("an answer shares its memory")
	}
	spoil(l[0])
	if !sameTxs(l[1:], want[1:]) {
		t.Error("answers share their memory")
	}
}
