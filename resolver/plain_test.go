package resolver

import (
	"math/big"
	"math/rand"

	"tollhouse/api"
	"tollhouse/chain"
	"tollhouse/mac"
)

// row is a row of the document's table.
type row struct {
	kind    int
	output  string // "0", "1", "own", "other", "rest"
	path    int
	expired bool // from its Expiry on
	known   bool // if its secret is known
	delayed bool // Delay blocks behind its own
	secret  bool // with the Secret
}

// table is the document's, word by word.
var table = []row{
	{kind: api.ClosedOwn, output: "0", path: 0, delayed: true},
	{kind: api.ClosedOwn, output: "own", path: 1, expired: true, delayed: true},
	{kind: api.ClosedOwn, output: "other", path: 0, known: true, delayed: true},
	{kind: api.ClosedOther, output: "1", path: 0},
	{kind: api.ClosedOther, output: "own", path: 1, expired: true},
	{kind: api.ClosedOther, output: "other", path: 0, known: true},
	{kind: api.ClosedRevoked, output: "0", path: 1, secret: true},
	{kind: api.ClosedRevoked, output: "1", path: 0},
	{kind: api.ClosedRevoked, output: "rest", path: 2, secret: true},
}

// inRow tells whether the output i of z is of this row.
func inRow(w row, d api.Terms, node int, z api.Closed, i int) bool {
	other := d.A + d.B - node
	switch w.output {
	case "0":
		return i == 0
	case "1":
		return i == 1
	case "rest":
		return i >= 2
	}
	if i < 2 || i-2 >= len(z.View.Htlcs) {
		return false
	}
	by := z.View.Htlcs[i-2].By
	return w.output == "own" && by == node || w.output == "other" && by == other
}

// plainSecret is the secret of hash in known.
func plainSecret(known [][32]byte, hash [32]byte) ([32]byte, bool) {
	for _, s := range known {
		if mac.Hash(s) == hash {
			return s, true
		}
	}
	return [32]byte{}, false
}

// plainIn is the input, without a tag, that claims the output i of z by this row.
func plainIn(w row, d api.Terms, z api.Closed, i, height int, known [][32]byte) (api.In, bool) {
	in := api.In{Ref: api.Ref{Tx: chain.Id(z.Tx), Out: i}, Path: w.path}
	behind := new(big.Int).Sub(big.NewInt(int64(height)), big.NewInt(int64(z.At)))
	if w.delayed && behind.Cmp(big.NewInt(int64(d.Delay))) < 0 {
		return api.In{}, false
	}
	if w.expired && z.View.Htlcs[i-2].Expiry > height {
		return api.In{}, false
	}
	if w.known {
		s, ok := plainSecret(known, z.View.Htlcs[i-2].Hash)
		if !ok {
			return api.In{}, false
		}
		in.Secret = s
	}
	if w.secret {
		in.Secret = z.Secret
	}
	return in, true
}

// plainClaims is what Claims should be, of terms that may be and one of the two.
func plainClaims(d api.Terms, node int, key [32]byte, z api.Closed, height int, spent []bool, known [][32]byte) []api.Tx {
	var l []api.Tx
	for i, out := range z.Tx.Outs {
		if i < len(spent) && spent[i] || out.Amount <= d.Fee {
			continue
		}
		for _, w := range table {
			if w.kind != z.Kind || !inRow(w, d, node, z, i) || w.path >= len(out.Paths) {
				continue
			}
			if in, ok := plainIn(w, d, z, i, height, known); ok {
				tx := api.Tx{Ins: []api.In{in}, Outs: []api.Out{{Amount: out.Amount - d.Fee, Paths: []api.Path{{A: node}}}}}
				id := chain.Id(tx)
				tx.Ins[0].TagA = mac.Tag(key, "tx", id[:])
				l = append(l, tx)
			}
		}
	}
	return l
}

// plainOver is what Over should be. Whose an Htlc is does not matter to it: both are named.
func plainOver(z api.Closed, fee int, spent []bool) bool {
	for i, out := range z.Tx.Outs {
		named := z.Kind == api.ClosedRevoked
		if z.Kind == api.ClosedOwn || z.Kind == api.ClosedOther {
			named = i == z.Kind-api.ClosedOwn || i >= 2 && i < 2+len(z.View.Htlcs)
		}
		if named && !(i < len(spent) && spent[i]) && out.Amount > fee {
			return false
		}
	}
	return true
}

// plainDue is what Due should be; where the sums do not run over.
func plainDue(d api.Terms, node int, v api.View, height, margin int, known [][32]byte) bool {
	for _, h := range v.Htlcs {
		_, ok := plainSecret(known, h.Hash)
		if h.By == node && h.Expiry <= height-margin || h.By == d.A+d.B-node && ok && h.Expiry <= height+d.Delay+margin {
			return true
		}
	}
	return false
}

// anyTerms is terms of the two.
func anyTerms(r *rand.Rand) api.Terms {
	d := terms()
	d.Delay = 1 + r.Intn(6)
	d.Fee = r.Intn(60)
	return d
}

// anyView is a view that fits the terms: some are below their Fee. The secret of the i-th Htlc is that of i.
func anyView(r *rand.Rand, d api.Terms) api.View {
	v := api.View{A: d.StartA, B: d.StartB}
	for i := range r.Intn(8) {
		h := api.Htlc{By: d.A, Id: i, Amount: r.Intn(100), Hash: hashOf(i), Expiry: r.Intn(16)}
		if i > 0 && v.Htlcs[i-1].By == d.B || r.Intn(3) == 0 {
			h.By = d.B
		}
		if r.Intn(4) == 0 {
			h.Amount = d.Fee + r.Intn(2)
		}
		if h.By == d.A {
			h.Amount = min(h.Amount, v.A)
			v.A -= h.Amount
		} else {
			h.Amount = min(h.Amount, v.B)
			v.B -= h.Amount
		}
		v.Htlcs = append(v.Htlcs, h)
	}
	shift := r.Intn(v.A + 1)
	if r.Intn(2) == 0 {
		shift = v.A - r.Intn(min(v.A, 2*d.Fee)+1)
	}
	v.A, v.B = v.A-shift, v.B+shift
	return v
}

// anyKnown is the secrets of some of the first eight, in any order, with others.
func anyKnown(r *rand.Rand) [][32]byte {
	var l [][32]byte
	for _, n := range r.Perm(12) {
		if r.Intn(2) == 0 {
			l = append(l, secretOf(n))
		}
	}
	return l
}

// anySpent tells of some outputs that they are spent, of more than there are or of fewer.
func anySpent(r *rand.Rand) []bool {
	l := make([]bool, r.Intn(14))
	for i := range l {
		l[i] = r.Intn(3) == 0
	}
	return l
}
