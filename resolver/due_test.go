package resolver

import (
	"math"
	"math/big"
	"math/rand"
	"testing"

	"tollhouse/api"
	"tollhouse/chain"
)

// spends is an input that spends the output out of z by a path, with a secret.
func spends(z api.Closed, out, path int, secret [32]byte) api.In {
	return api.In{Ref: api.Ref{Tx: chain.Id(z.Tx), Out: out}, Path: path, Secret: secret}
}

// P17.3: the secret that a transaction shows.
func TestShown(t *testing.T) {
	d := terms()
	z := closedAs(t, d, api.ClosedOther, nodes[0], someView(), 1)
	elsewhere := spends(z, 2, 0, secretOf(0))
	elsewhere.Ref.Tx[5]++
	good, none := spends(z, 2, 0, secretOf(0)), api.In{}
	for name, c := range map[string]struct {
		out  int
		ins  []api.In
		want bool
	}{
		"shown":                       {2, []api.In{good}, true},
		"behind others":               {2, []api.In{none, elsewhere, spends(z, 3, 0, secretOf(1)), good}, true},
		"the other Htlc":              {3, []api.In{good, spends(z, 3, 0, secretOf(1))}, true},
		"behind another path":         {2, []api.In{spends(z, 2, 1, secretOf(7)), good}, true},
		"no input":                    {2, nil, false},
		"another output":              {3, []api.In{good}, false},
		"another transaction":         {2, []api.In{elsewhere}, false},
		"by the path 1":               {2, []api.In{spends(z, 2, 1, secretOf(0))}, false},
		"by the path 2":               {2, []api.In{spends(z, 2, 2, secretOf(0))}, false},
		"by the path -1":              {2, []api.In{spends(z, 2, -1, secretOf(0))}, false},
		"another secret":              {2, []api.In{spends(z, 2, 0, secretOf(1))}, false},
		"a wrong one first":           {2, []api.In{spends(z, 2, 0, secretOf(1)), good}, false},
		"the hash":                    {2, []api.In{spends(z, 2, 0, hashOf(0))}, false},
		"no Htlc, 0":                  {0, []api.In{spends(z, 0, 0, secretOf(0))}, false},
		"no Htlc, 1":                  {1, []api.In{spends(z, 1, 0, secretOf(0))}, false},
		"no Htlc, behind the last":    {4, []api.In{spends(z, 4, 0, secretOf(0))}, false},
		"no Htlc, -1":                 {-1, []api.In{spends(z, -1, 0, secretOf(0))}, false},
		"no Htlc, the least number":   {math.MinInt, []api.In{spends(z, math.MinInt, 0, secretOf(0))}, false},
		"no Htlc, one above":          {math.MinInt + 1, []api.In{spends(z, math.MinInt+1, 0, secretOf(0))}, false},
		"no Htlc, the greatest":       {math.MaxInt, []api.In{spends(z, math.MaxInt, 0, secretOf(0))}, false},
		"tags and the rest are equal": {2, []api.In{{Ref: good.Ref, Secret: secretOf(0), TagA: [32]byte{1}, TagB: [32]byte{2}}}, true},
	} {
		secret, ok := Shown(z, c.out, api.Tx{Ins: c.ins})
		var want [32]byte
		if c.want {
			want = secretOf(c.out - 2)
		}
		if ok != c.want || secret != want {
			t.Error(name, secret, ok)
		}
	}
	revoked := closedAs(t, d, api.ClosedRevoked, nodes[0], someView(), 1)
	if secret, ok := Shown(revoked, 2, api.Tx{Ins: []api.In{spends(revoked, 2, 0, secretOf(0))}}); ok || secret != [32]byte{} {
		t.Error("of a revoked one there is no view", secret, ok)
	}
}

// P17.3: when a channel must be closed, at its edges.
func TestDue(t *testing.T) {
	d, v := terms(), someView() // Delay 3, both of Expiry 9
	one := func(i int) api.View { return api.View{Htlcs: v.Htlcs[i : i+1]} }
	secret := [][32]byte{{}, secretOf(1), {1}}
	for name, c := range map[string]struct {
		v              api.View
		height, margin int
		known          [][32]byte
		want           bool
	}{
		"no Htlcs":                       {api.View{A: 1000, B: 500}, 1000, 0, secret, false},
		"own, at":                        {one(0), 9, 0, nil, true},
		"own, ahead":                     {one(0), 8, 0, nil, false},
		"own, with a margin, at":         {one(0), 11, 2, nil, true},
		"own, with a margin, ahead":      {one(0), 10, 2, nil, false},
		"own, long ago":                  {one(0), 1000, 2, nil, true},
		"own, its secret known":          {one(0), 8, 0, [][32]byte{secretOf(0)}, false},
		"other, unknown":                 {one(1), 1000, 0, nil, false},
		"other, another one known":       {one(1), 1000, 0, [][32]byte{secretOf(0), hashOf(1)}, false},
		"other, at":                      {one(1), 6, 0, secret, true},
		"other, ahead":                   {one(1), 5, 0, secret, false},
		"other, with a margin, at":       {one(1), 4, 2, secret, true},
		"other, with a margin, ahead":    {one(1), 3, 2, secret, false},
		"other, long ago":                {one(1), 1000, 2, secret, true},
		"both, none due":                 {v, 5, 0, secret, false},
		"both, the other one due":        {v, 6, 0, secret, true},
		"both, unknown":                  {v, 8, 0, nil, false},
		"both, own due":                  {v, 9, 0, nil, true},
		"the last number":                {one(1), math.MaxInt, math.MaxInt, secret, true},
		"one runs over":                  {one(1), math.MaxInt - 2, 0, secret, true},
		"the margin runs over":           {one(1), 0, math.MaxInt, secret, true},
		"own, a great margin":            {one(0), 0, math.MaxInt, nil, false},
		"own, the greatest margin":       {one(0), math.MaxInt, math.MaxInt, nil, false},
		"own, the least height":          {one(0), math.MinInt, 1, nil, false},
		"own, the least margin":          {one(0), 0, math.MinInt, nil, true},
		"own, the least height, margin":  {one(0), math.MinInt, math.MinInt, nil, false},
		"own, the least margin but -10":  {one(0), math.MinInt + 9, math.MinInt, nil, true},
		"own, the least margin but -11":  {one(0), math.MinInt + 8, math.MinInt, nil, false},
		"other, the least height":        {one(1), math.MinInt, -5, secret, false},
		"other, nearly over, and back":   {one(1), math.MaxInt, -math.MaxInt + 6, secret, true},
		"other, nearly over, and ahead":  {one(1), math.MaxInt, -math.MaxInt + 5, secret, false},
		"own, a margin below 0, at":      {one(0), 7, -2, nil, true},
		"own, a margin below 0, ahead":   {one(0), 6, -2, nil, false},
		"other, a margin below 0, at":    {one(1), 8, -2, secret, true},
		"other, a margin below 0, ahead": {one(1), 7, -2, secret, false},
	} {
		if Due(d, nodes[0], c.v, c.height, c.margin, c.known) != c.want {
			t.Error(name)
		}
	}
}

// P17.3: sums that would run over are MaxExpiry, no more.
func TestDueRunsOver(t *testing.T) {
	d := terms()
	for _, c := range []struct {
		by, expiry, height, margin int
		want                       bool
	}{
		{nodes[1], api.MaxExpiry, math.MaxInt, 0, true},
		{nodes[1], api.MaxExpiry + 1, math.MaxInt, 0, false},
		{nodes[1], api.MaxExpiry, api.MaxExpiry, api.MaxExpiry, true},
		{nodes[1], api.MaxExpiry, api.MaxExpiry - 3, 0, true},
		{nodes[1], api.MaxExpiry, api.MaxExpiry - 4, 0, false},
		{nodes[0], api.MaxExpiry, math.MaxInt, -1, true},
		{nodes[0], api.MaxExpiry + 1, math.MaxInt, -1, false},
		{nodes[0], api.MaxExpiry, api.MaxExpiry, 0, true},
		{nodes[0], api.MaxExpiry, api.MaxExpiry, 1, false},
	} {
		v := api.View{Htlcs: []api.Htlc{{By: c.by, Amount: 1, Hash: hashOf(0), Expiry: c.expiry}}}
		if Due(d, nodes[0], v, c.height, c.margin, [][32]byte{secretOf(0)}) != c.want {
			t.Error(c)
		}
	}
	// Of terms that may not be too.
	d.Delay = math.MaxInt
	v := api.View{Htlcs: []api.Htlc{{By: nodes[1], Amount: 1, Hash: hashOf(0), Expiry: 9}}}
	if !Due(d, nodes[0], v, 1, 0, [][32]byte{secretOf(0)}) {
		t.Error("the greatest Delay")
	}
}

// P17.3: sums of any numbers.
func TestTogether(t *testing.T) {
	r := rand.New(rand.NewSource(3))
	ends := []int{math.MinInt, math.MinInt + 1, -math.MaxInt / 2, -4, -1, 0, 1, 2, api.MaxExpiry, math.MaxInt / 2, math.MaxInt - 1, math.MaxInt}
	for range 20000 {
		sum := new(big.Int)
		var l []int
		for range r.Intn(5) {
			x := ends[r.Intn(len(ends))]
			l = append(l, x)
			sum.Add(sum, big.NewInt(int64(x)))
		}
		want := api.MaxExpiry
		if sum.IsInt64() {
			want = int(sum.Int64())
		} else if sum.Sign() < 0 {
			want = math.MinInt
		}
		if got := together(l...); got != want {
			t.Fatalf("together(%v) = %d, want %d", l, got, want)
		}
	}
}

// P17.3: Due by the document's words, of any views.
func TestDueTable(t *testing.T) {
	r := rand.New(rand.NewSource(2))
	due := 0
	for range 20000 {
		d := anyTerms(r)
		v := anyView(r, d)
		if len(v.Htlcs) > 1 {
			v.Htlcs = v.Htlcs[:1+r.Intn(2)]
		}
		node := nodes[r.Intn(2)]
		if r.Intn(20) == 0 {
			node = 7
		}
		height, margin, known := r.Intn(24), r.Intn(6), anyKnown(r)
		got := Due(d, node, v, height, margin, known)
		if got != plainDue(d, node, v, height, margin, known) {
			t.Fatalf("Due(%v, %d, %v, %d, %d, %v) = %v", d, node, v, height, margin, known, got)
		}
		if got {
			due++
		}
	}
	if due < 3000 || due > 17000 {
		t.Error("due", due)
	}
}

// P17.3: which outputs must be spent, by kind.
func TestOver(t *testing.T) {
	d := terms()
	own := closedAs(t, d, api.ClosedOwn, nodes[0], someView(), 1)     // 798, 400, 200, 100
	other := closedAs(t, d, api.ClosedOther, nodes[0], someView(), 1) // 400, 798, 200, 100
	revoked := closedAs(t, d, api.ClosedRevoked, nodes[0], someView(), 1)
	strange := own
	strange.Kind = api.ClosedStrange
	short := own
	short.Tx.Outs = own.Tx.Outs[:1]
	for name, c := range map[string]struct {
		z     api.Closed
		fee   int
		spent []bool
		want  bool
	}{
		"own, nothing":               {own, 2, nil, false},
		"own, all but the other's":   {own, 2, []bool{true, false, true, true}, true},
		"own, one's own is left":     {own, 2, []bool{false, true, true, true}, false},
		"own, an own Htlc is left":   {own, 2, []bool{true, true, false, true}, false},
		"own, an other's is left":    {own, 2, []bool{true, true, true, false}, false},
		"own, behind the end":        {own, 2, []bool{true, true, true}, false},
		"own, at the fee":            {own, 100, []bool{true, true, true}, true},
		"own, above the fee":         {own, 99, []bool{true, true, true}, false},
		"own, all below the fee":     {own, 798, nil, true},
		"own, nearly all below":      {own, 797, nil, false},
		"other, all but the other's": {other, 2, []bool{false, true, true, true}, true},
		"other, one's own is left":   {other, 2, []bool{true, false, true, true}, false},
		"other, an Htlc is left":     {other, 2, []bool{true, true, true, false, true, true}, false},
		"revoked, one is left":       {revoked, 2, []bool{true, false, true, true}, false},
		"revoked, another one":       {revoked, 2, []bool{false, true, true, true}, false},
		"revoked, the last":          {revoked, 2, []bool{true, true, true}, false},
		"revoked, all":               {revoked, 2, []bool{true, true, true, true}, true},
		"strange":                    {strange, 2, nil, true},
		"no kind":                    {api.Closed{}, 2, nil, true},
		"Htlcs that are not there":   {short, 2, []bool{true}, true},
		"what is there":              {short, 2, nil, false},
	} {
		if Over(c.z, c.fee, c.spent) != c.want {
			t.Error(name)
		}
	}
}
