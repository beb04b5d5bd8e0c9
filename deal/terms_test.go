package deal

import (
	"math"
	"testing"

	"tollhouse/api"
)

// terms are ones that may be.
func terms() api.Terms {
	return api.Terms{Channel: 3, A: 1, B: 4, Fund: api.Ref{Tx: [32]byte{9}, Out: 2}, StartA: 100, StartB: 50, Delay: 2, Fee: 1, Reserve: 5, Slots: 2, Flight: 90}
}

// view is one that fits these terms: three Htlcs of A, two of B.
func view() api.View {
	return api.View{A: 60, B: 20, Htlcs: []api.Htlc{
		{By: 1, Id: 0, Amount: 30, Hash: [32]byte{1}, Expiry: 9},
		{By: 1, Id: 2, Amount: 0, Hash: [32]byte{1}, Expiry: 0},
		{By: 1, Id: 7, Amount: 20, Hash: [32]byte{31: 2}, Expiry: api.MaxExpiry},
		{By: 4, Id: 1, Amount: 15, Hash: [32]byte{3}, Expiry: 8},
		{By: 4, Id: 2, Amount: 5, Hash: [32]byte{4}, Expiry: 7},
	}}
}

// P14.1: which terms may be; and what is answered of those that may not.
func TestMay(t *testing.T) {
	for _, c := range []struct {
		name   string
		change func(d *api.Terms)
		want   bool
	}{
		{"as they are", func(d *api.Terms) {}, true},
		{"Channel 0", func(d *api.Terms) { d.Channel = 0 }, false},
		{"Channel 1", func(d *api.Terms) { d.Channel = 1 }, true},
		{"Channel MaxChannel", func(d *api.Terms) { d.Channel = api.MaxChannel }, true},
		{"Channel beyond", func(d *api.Terms) { d.Channel = api.MaxChannel + 1 }, false},
		{"A -1", func(d *api.Terms) { d.A = -1 }, false},
		{"A 0", func(d *api.Terms) { d.A = 0 }, true},
		{"A and B the same", func(d *api.Terms) { d.A = 4 }, false},
		{"A above B", func(d *api.Terms) { d.A, d.B = d.B, d.A }, false},
		{"A just below B", func(d *api.Terms) { d.A = 3 }, true},
		{"B 7", func(d *api.Terms) { d.B = 7 }, true},
		{"B 8", func(d *api.Terms) { d.B = 8 }, false},
		{"Fund 0", func(d *api.Terms) { d.Fund = api.Ref{} }, true},
		{"Fund -1", func(d *api.Terms) { d.Fund.Out = -1 }, false},
		{"a far Fund", func(d *api.Terms) { d.Fund.Out = math.MaxInt }, true},
		{"StartA -1", func(d *api.Terms) { d.StartA = -1 }, false},
		{"StartB -1", func(d *api.Terms) { d.StartB = -1 }, false},
		{"nothing", func(d *api.Terms) { d.StartA, d.StartB = 0, 0 }, true},
		{"MaxMsat", func(d *api.Terms) { d.StartA, d.StartB = api.MaxMsat-50, 50 }, true},
		{"more than MaxMsat", func(d *api.Terms) { d.StartA, d.StartB = api.MaxMsat-50, 51 }, false},
		{"MaxMsat twice", func(d *api.Terms) { d.StartA, d.StartB = api.MaxMsat, api.MaxMsat }, false},
		{"Delay 0", func(d *api.Terms) { d.Delay = 0 }, false},
		{"Delay 1", func(d *api.Terms) { d.Delay = 1 }, true},
		{"Delay MaxDelay", func(d *api.Terms) { d.Delay = api.MaxDelay }, true},
		{"Delay beyond", func(d *api.Terms) { d.Delay = api.MaxDelay + 1 }, false},
		{"Fee -1", func(d *api.Terms) { d.Fee = -1 }, false},
		{"Fee 0", func(d *api.Terms) { d.Fee = 0 }, true},
		{"Fee MaxMsat", func(d *api.Terms) { d.Fee = api.MaxMsat }, true},
		{"Reserve -1", func(d *api.Terms) { d.Reserve = -1 }, false},
		{"Reserve 0", func(d *api.Terms) { d.Reserve = 0 }, true},
		{"Reserve MaxMsat", func(d *api.Terms) { d.Reserve = api.MaxMsat }, true},
		{"Flight -1", func(d *api.Terms) { d.Flight = -1 }, false},
		{"Flight 0", func(d *api.Terms) { d.Flight = 0 }, true},
		{"Flight MaxMsat", func(d *api.Terms) { d.Flight = api.MaxMsat }, true},
		{"all three MaxMsat", func(d *api.Terms) { d.Fee, d.Reserve, d.Flight = api.MaxMsat, api.MaxMsat, api.MaxMsat }, true},
		{"the least", func(d *api.Terms) { d.Reserve = math.MinInt }, false},
		{"Slots 0", func(d *api.Terms) { d.Slots = 0 }, false},
		{"Slots 1", func(d *api.Terms) { d.Slots = 1 }, true},
		{"Slots 16", func(d *api.Terms) { d.Slots = 16 }, true},
		{"Slots 17", func(d *api.Terms) { d.Slots = 17 }, false},
	} {
		d := terms()
		c.change(&d)
		v := api.View{A: d.StartA, B: d.StartB}
		if May(d) != c.want || Fits(d, v) != c.want {
			t.Errorf("%s: May = %v, Fits = %v, want %v", c.name, May(d), Fits(d, v), c.want)
		}
		wantRefused(t, c.name, d, v, c.want)
	}
}

// wantRefused tells whether terms that may not be are refused by each call that makes something of them.
func wantRefused(t *testing.T, name string, d api.Terms, v api.View, may bool) {
	t.Helper()
	want := api.ErrArg
	if may {
		want = api.OK
	}
	x, e := Commit(d, d.A, [32]byte{7}, v)
	y, f := Claim(d, d.B, []api.In{{}}, 10)
	if e != want || f != want {
		t.Errorf("%s: Commit %d, Claim %d, want %d", name, e, f, want)
	}
	fund := Fund(d)
	if !may && (x.Ins != nil || x.Outs != nil || y.Ins != nil || y.Outs != nil || fund.Amount != 0 || fund.Paths != nil) {
		t.Errorf("%s: something beside a refusal", name)
	}
	if may && len(fund.Paths) != 1 {
		t.Errorf("%s: Fund %v", name, fund)
	}
}

// P14.1: which views fit.
func TestFits(t *testing.T) {
	for _, c := range []struct {
		name   string
		change func(v *api.View)
		want   bool
	}{
		{"as it is", func(v *api.View) {}, true},
		{"no Htlcs", func(v *api.View) { *v = api.View{A: 150} }, true},
		{"all is B's", func(v *api.View) { *v = api.View{B: 150} }, true},
		{"all is on its way", func(v *api.View) { v.A, v.B, v.Htlcs[1].Amount = 0, 0, 80 }, true},
		{"too much", func(v *api.View) { v.A++ }, false},
		{"too little", func(v *api.View) { v.B-- }, false},
		{"a like sum", func(v *api.View) { v.A--; v.B++ }, true},
		{"an Htlc too much", func(v *api.View) { v.Htlcs[1].Amount++ }, false},
		{"an Htlc missing", func(v *api.View) { v.Htlcs = v.Htlcs[:4] }, false},
		{"A below 0", func(v *api.View) { v.A, v.B = -1, 81 }, false},
		{"B below 0", func(v *api.View) { v.A, v.B = 81, -1 }, false},
		{"an Htlc below 0", func(v *api.View) { v.A, v.Htlcs[1].Amount = 61, -1 }, false},
		{"a sum that runs round", func(v *api.View) { v.A, v.B, v.Htlcs[1].Amount = math.MaxInt, math.MaxInt, 82 }, false},
		{"two alike", func(v *api.View) { v.Htlcs[1].Id = 0 }, false},
		{"two of B alike", func(v *api.View) { v.Htlcs[4].Id = 1 }, false},
		{"falling", func(v *api.View) { v.Htlcs[1].Id = 8 }, false},
		{"one Id of both", func(v *api.View) { v.Htlcs[3].Id, v.Htlcs[4].Id = 7, 8 }, true},
		{"B ahead of A", func(v *api.View) { v.Htlcs[2], v.Htlcs[3] = v.Htlcs[3], v.Htlcs[2] }, false},
		{"by another one", func(v *api.View) { v.Htlcs[2].By = 2 }, false},
		{"by none", func(v *api.View) { v.Htlcs[0].By = -1 }, false},
		{"the last one by another one", func(v *api.View) { v.Htlcs[4].By = 5 }, false},
		{"Id -1", func(v *api.View) { v.Htlcs[0].Id = -1 }, false},
		{"a great Id", func(v *api.View) { v.Htlcs[4].Id = math.MaxInt }, true},
		{"Expiry -1", func(v *api.View) { v.Htlcs[1].Expiry = -1 }, false},
		{"Expiry beyond", func(v *api.View) { v.Htlcs[2].Expiry = api.MaxExpiry + 1 }, false},
		{"a Hash of zeros", func(v *api.View) { v.Htlcs[4].Hash = [32]byte{} }, false},
		{"32 Htlcs", func(v *api.View) { v.Htlcs, v.A, v.B = many(32), 140, 10 }, true},
		{"33 Htlcs", func(v *api.View) { v.Htlcs, v.A, v.B = many(33), 140, 10 }, false},
	} {
		v := view()
		c.change(&v)
		if Fits(terms(), v) != c.want {
			t.Errorf("%s: Fits = %v", c.name, !c.want)
		}
		want := api.ErrArg
		if c.want {
			want = api.OK
		}
		for _, holder := range []int{1, 4} {
			if x, e := Commit(terms(), holder, [32]byte{7}, v); e != want || (x.Outs != nil) != c.want {
				t.Errorf("%s: Commit = %d, want %d", c.name, e, want)
			}
		}
	}
}

// P14.1: a channel of nothing: what is no amount does not sum up to it.
func TestFitsNothing(t *testing.T) {
	d := terms()
	d.StartA, d.StartB = 0, 0
	for _, c := range []struct {
		a, b int
		want bool
	}{{0, 0, true}, {1, 0, false}, {-1, 1, false}, {1, -1, false}, {math.MaxInt, 1, false}, {math.MinInt, math.MinInt, false}} {
		if Fits(d, api.View{A: c.a, B: c.b}) != c.want {
			t.Errorf("Fits of %d and %d = %v", c.a, c.b, !c.want)
		}
	}
}

// many is n Htlcs of nothing, of which A has 20: more than Slots says, as views are not asked for it.
func many(n int) []api.Htlc {
	l := make([]api.Htlc, n)
	for i := range l {
		l[i] = api.Htlc{By: 1, Id: i, Hash: [32]byte{1}}
		if i >= 20 {
			l[i].By = 4
		}
	}
	return l
}

// P14.1: the other one, of any terms.
func TestOther(t *testing.T) {
	for node, want := range map[int]int{1: 4, 4: 1, 0: -1, 2: -1, 3: -1, 5: -1, -1: -1, math.MinInt: -1, math.MaxInt: -1} {
		if got := Other(terms(), node); got != want {
			t.Errorf("Other(%d) = %d, want %d", node, got, want)
		}
	}
	d := api.Terms{A: 30, B: 20}
	if Other(d, 30) != 20 || Other(d, 20) != 30 || Other(d, 1) != -1 {
		t.Error("of terms that may not be")
	}
}
