package chain

import (
	"encoding/hex"
	"math"
	"reflect"
	"testing"

	"tollhouse/api"
	"tollhouse/mac"
)

// begun is a chain of 3 nodes with these outputs.
func begun(t *testing.T, outs ...api.Out) *Chain {
	t.Helper()
	c, e := New([32]byte{1}, 3, outs)
	if e != api.OK || c == nil {
		t.Fatal("New", e)
	}
	return c
}

// spend is a transaction that spends outputs, each by a path, and gives outs; with all tags that are asked for.
func spend(c *Chain, outs []api.Out, ins ...api.In) api.Tx {
	x := api.Tx{Ins: ins, Outs: outs}
	for i, in := range x.Ins {
		out, _, ok := c.output(in.Ref)
		if ok && in.Path >= 0 && in.Path < len(out.Paths) {
			p := out.Paths[in.Path]
			x.Ins[i].TagA = c.Tag(p.A, Id(x))
			if p.Two {
				x.Ins[i].TagB = c.Tag(p.B, Id(x))
			}
		}
	}
	return x
}

// of is an input of the chain's beginning.
func of(c *Chain, out, path int) api.In {
	return api.In{Ref: api.Ref{Tx: c.First(), Out: out}, Path: path}
}

func wantSubmit(t *testing.T, name string, c *Chain, x api.Tx, want api.Errno) {
	t.Helper()
	ahead := len(c.Pool())
	if e := c.Submit(x); e != want {
		t.Errorf("%s: Submit = %d, want %d", name, e, want)
	}
	more := 0
	if want == api.OK {
		more = 1
	}
	if len(c.Pool()) != ahead+more {
		t.Errorf("%s: %d in the pool, %d ahead", name, len(c.Pool()), ahead)
	}
}

// P13.1: which chains may be, and what a new one has.
func TestNew(t *testing.T) {
	outs := []api.Out{to(0, 100), {Amount: 50, Paths: []api.Path{{A: 0, B: 2, Two: true}, {A: 1, Height: 3}}}}
	for _, c := range []struct {
		name  string
		nodes int
		outs  []api.Out
		want  api.Errno
	}{
		{"as it is", 3, outs, api.OK},
		{"8 nodes", 8, outs, api.OK},
		{"9 nodes", 9, outs, api.ErrArg},
		{"1 node", 1, outs[:1], api.OK},
		{"no node", 0, outs[:1], api.ErrArg},
		{"nodes below 0", -1, outs[:1], api.ErrArg},
		{"a node that there is not", 2, outs, api.ErrArg},
		{"no outputs", 3, nil, api.ErrArg},
		{"64 outputs", 3, manyOuts(64), api.OK},
		{"65 outputs", 3, manyOuts(65), api.ErrArg},
		{"MaxMsat", 3, []api.Out{to(0, api.MaxMsat-1), to(1, 1)}, api.OK},
		{"more than MaxMsat", 3, []api.Out{to(0, api.MaxMsat-1), to(1, 2)}, api.ErrArg},
		{"an amount below 0", 3, []api.Out{to(0, -1), to(1, 2)}, api.ErrArg},
		{"no paths", 3, []api.Out{{Amount: 1}}, api.ErrArg},
		{"5 paths", 3, []api.Out{{Amount: 1, Paths: make([]api.Path, 5)}}, api.ErrArg},
		{"a height beyond", 3, []api.Out{{Amount: 1, Paths: []api.Path{{Height: api.MaxExpiry + 1}}}}, api.ErrArg},
	} {
		got, e := New([32]byte{1}, c.nodes, c.outs)
		if e != c.want || (got != nil) != (e == api.OK) {
			t.Errorf("%s: New = %v, %d, want %d", c.name, got != nil, e, c.want)
		}
		if e != api.OK {
			continue
		}
		x, at, ok := got.Confirmed(got.First())
		if got.Height() != 0 || got.First() != Id(api.Tx{Outs: c.outs}) || !ok || at != 0 || len(x.Ins) != 0 || !reflect.DeepEqual(x.Outs, c.outs) {
			t.Errorf("%s: height %d, first %x, %v, %d, %v", c.name, got.Height(), got.First(), x, at, ok)
		}
		if len(got.Pool()) != 0 || got.Fees() != 0 {
			t.Errorf("%s: not new", c.name)
		}
	}
}

// P13.1: nodes' tags, as another program worked them out.
func TestTag(t *testing.T) {
	c := begun(t, to(0, 1))
	for node, want := range []string{
		"5a73518fca09eb8db7f2c0ba79ed8a13a32cc22c84af44256bcb738103b88f47",
		"63042a1d793eaa68be96ac926b23a2b41c45bcbc86433b36e5b3706f76abd2ca",
	} {
		if tag := c.Tag(node, counted()); hex.EncodeToString(tag[:]) != want {
			t.Errorf("Tag(%d) = %x, want %s", node, tag, want)
		}
	}
	if c.Tag(2, counted()) == [32]byte{} {
		t.Error("no tag of the last node")
	}
	for _, node := range []int{-1, 3, 256, math.MinInt, math.MaxInt} {
		if c.Tag(node, counted()) != [32]byte{} {
			t.Errorf("a tag of node %d", node)
		}
	}
}

// P13.2: each refusal by itself, and the chapter's example.
func TestSubmit(t *testing.T) {
	c := begun(t, to(0, 100), to(1, 50))
	wantSubmit(t, "no inputs", c, api.Tx{Outs: []api.Out{to(0, 1)}}, api.ErrArg)
	wantSubmit(t, "a node beyond", c, spend(c, []api.Out{to(3, 1)}, of(c, 0, 0)), api.ErrArg)

	x := spend(c, []api.Out{to(1, 100)}, of(c, 0, 0))
	other := spend(c, []api.Out{to(1, 100)}, of(c, 0, 0))
	other.Ins[0].TagA = c.Tag(1, Id(other))
	wantSubmit(t, "another one's tag", c, other, api.ErrRule)
	wantSubmit(t, "one's own", c, x, api.OK)
	wantSubmit(t, "again", c, x, api.ErrTwice)
	wantSubmit(t, "again, with another tag", c, other, api.ErrTwice)

	unknown := of(c, 0, 0)
	unknown.Ref.Tx[0]++
	wantSubmit(t, "of no transaction", c, spend(c, []api.Out{to(0, 1)}, unknown), api.ErrNone)
	wantSubmit(t, "of no output", c, spend(c, []api.Out{to(0, 1)}, of(c, 2, 0)), api.ErrNone)
	wantSubmit(t, "of a far output", c, spend(c, []api.Out{to(0, 1)}, of(c, math.MaxInt, 0)), api.ErrNone)
	wantSubmit(t, "of the pool", c, spend(c, []api.Out{to(0, 1)}, api.In{Ref: api.Ref{Tx: Id(x)}}), api.ErrNone)

	wantSubmit(t, "all of two", c, spend(c, []api.Out{to(0, 75), to(2, 75)}, of(c, 0, 0), of(c, 1, 0)), api.OK)
	wantSubmit(t, "too much", c, spend(c, []api.Out{to(0, 75), to(2, 76)}, of(c, 0, 0), of(c, 1, 0)), api.ErrOver)
	wantSubmit(t, "a part", c, spend(c, []api.Out{to(0, 1)}, of(c, 0, 0), of(c, 1, 0)), api.OK)
	wantSubmit(t, "nothing", c, spend(c, []api.Out{to(0, 0)}, of(c, 1, 0)), api.OK)

	if l := c.Block(nil); len(l) != 2 || Id(l[0]) != Id(x) {
		t.Fatal("Block", l)
	}
	wantSubmit(t, "confirmed", c, x, api.ErrTwice)
	wantSubmit(t, "spent", c, spend(c, []api.Out{to(0, 2)}, of(c, 0, 0)), api.ErrSpent)
	wantSubmit(t, "of a block", c, spend(c, []api.Out{to(0, 1)}, api.In{Ref: api.Ref{Tx: Id(x)}}), api.OK)
}

// P13.2: the one that the chapter names first is answered.
func TestSubmitOrder(t *testing.T) {
	c := begun(t, to(0, 100), to(0, 50), api.Out{Amount: 5, Paths: []api.Path{{A: 1, Height: 9}}})
	done := spend(c, []api.Out{to(1, 100)}, of(c, 0, 0))
	wantSubmit(t, "done", c, done, api.OK)
	c.Block(nil)
	none, spent, early := of(c, 7, 0), of(c, 0, 0), of(c, 2, 0)
	out := []api.Out{to(0, 1000)}

	wrong := spend(c, []api.Out{to(0, -1)}, early, spent, none)
	wantSubmit(t, "ErrArg ahead of all", c, wrong, api.ErrArg)
	wantSubmit(t, "ErrNone ahead of ErrSpent", c, spend(c, out, early, spent, none), api.ErrNone)
	wantSubmit(t, "ErrSpent ahead of ErrRule", c, spend(c, out, early, spent), api.ErrSpent)
	wantSubmit(t, "ErrRule ahead of ErrOver", c, spend(c, out, early), api.ErrRule)
	wantSubmit(t, "ErrOver", c, spend(c, out, of(c, 1, 0)), api.ErrOver)

	for i := range api.MaxPool {
		wantSubmit(t, "one of many", c, spend(c, []api.Out{{Amount: 50, Paths: []api.Path{{A: 1, Height: i}}}}, of(c, 1, 0)), api.OK)
	}
	wantSubmit(t, "ErrFull ahead of ErrNone", c, spend(c, out, early, spent, none), api.ErrFull)
	wantSubmit(t, "ErrFull of a good one", c, spend(c, []api.Out{to(2, 7)}, of(c, 1, 0)), api.ErrFull)
	wantSubmit(t, "ErrTwice ahead of ErrFull", c, done, api.ErrTwice)
	wantSubmit(t, "ErrTwice of the pool ahead of ErrFull", c, c.Pool()[255], api.ErrTwice)
	wantSubmit(t, "ErrArg ahead of ErrFull", c, wrong, api.ErrArg)
}

// P13.2, P13.3: the conditions of a path, each at its edge.
func TestPaths(t *testing.T) {
	secret := sevens()
	out := api.Out{Amount: 10, Paths: []api.Path{
		{A: 0, Height: 2},
		{A: 1, Delay: 3},
		{A: 2, Hash: mac.Hash(secret)},
		{A: 0, B: 1, Two: true},
	}}
	c := begun(t, out, out, out, out)
	by := func(o, path int, change func(in *api.In)) api.Tx {
		x := spend(c, []api.Out{to(0, 10)}, of(c, o, path))
		if path == 2 {
			x.Ins[0].Secret = secret
		}
		if change != nil {
			change(&x.Ins[0])
		}
		return x
	}
	wantSubmit(t, "ahead of the height", c, by(0, 0, nil), api.ErrRule)
	wantSubmit(t, "no such path", c, by(0, 4, nil), api.ErrRule)
	wantSubmit(t, "a far path", c, by(0, math.MaxInt, nil), api.ErrRule)
	wantSubmit(t, "no secret", c, by(2, 2, func(in *api.In) { in.Secret = [32]byte{} }), api.ErrRule)
	wantSubmit(t, "another secret", c, by(2, 2, func(in *api.In) { in.Secret[31]++ }), api.ErrRule)
	wantSubmit(t, "the hash itself", c, by(2, 2, func(in *api.In) { in.Secret = mac.Hash(secret) }), api.ErrRule)
	wantSubmit(t, "a secret without a tag", c, by(2, 2, func(in *api.In) { in.TagA = [32]byte{} }), api.ErrRule)
	wantSubmit(t, "the secret", c, by(2, 2, nil), api.OK)
	wantSubmit(t, "without A's tag", c, by(3, 3, func(in *api.In) { in.TagA = [32]byte{} }), api.ErrRule)
	wantSubmit(t, "without B's tag", c, by(3, 3, func(in *api.In) { in.TagB = [32]byte{} }), api.ErrRule)
	wantSubmit(t, "tags the wrong way round", c, by(3, 3, func(in *api.In) { in.TagA, in.TagB = in.TagB, in.TagA }), api.ErrRule)
	wantSubmit(t, "both tags", c, by(3, 3, nil), api.OK)
	c.Block(nil)
	wantSubmit(t, "at the height", c, by(0, 0, func(in *api.In) { in.TagB, in.Secret = secret, secret }), api.OK)
	wantSubmit(t, "ahead of the delay", c, by(1, 1, nil), api.ErrRule)
	c.Block(nil)
	wantSubmit(t, "behind the delay", c, by(1, 1, nil), api.OK)

	late := spend(c, []api.Out{{Amount: 1, Paths: []api.Path{{A: 1, Delay: 2}, {A: 0, Height: 1, Delay: 1}}}}, of(c, 1, 1))
	c.Block([]int{0})
	wantSubmit(t, "a delay of its own", c, late, api.OK)
	c.Block([]int{0})
	in := api.In{Ref: api.Ref{Tx: Id(late)}}
	wantSubmit(t, "counted from its block on", c, spend(c, []api.Out{to(0, 1)}, in), api.ErrRule)
	in.Path = 1
	wantSubmit(t, "one block behind", c, spend(c, []api.Out{to(0, 0)}, in), api.OK)
	in.Path = 0
	c.Block([]int{0, 1})
	wantSubmit(t, "two blocks behind", c, spend(c, []api.Out{to(0, 1)}, in), api.OK)
}

// ids are the numbers of transactions.
func ids(l []api.Tx) [][32]byte {
	var out [][32]byte
	for _, x := range l {
		out = append(out, Id(x))
	}
	return out
}

func wantIds(t *testing.T, name string, got []api.Tx, want ...api.Tx) {
	t.Helper()
	if !reflect.DeepEqual(ids(got), ids(want)) {
		t.Errorf("%s: %d transactions, want %d, or others", name, len(got), len(want))
	}
}

// P13.3: what is confirmed, in order; what is held back; what leaves the pool.
func TestBlock(t *testing.T) {
	c := begun(t, to(0, 100), to(1, 50), to(2, 20))
	a := spend(c, []api.Out{to(0, 99)}, of(c, 0, 0))
	b := spend(c, []api.Out{to(1, 48)}, of(c, 1, 0))
	ab := spend(c, []api.Out{to(2, 150)}, of(c, 0, 0), of(c, 1, 0))
	bd := spend(c, []api.Out{to(2, 70)}, of(c, 1, 0), of(c, 2, 0))
	d := spend(c, []api.Out{to(2, 17)}, of(c, 2, 0))
	for _, x := range []api.Tx{ab, a, b, bd, d} {
		wantSubmit(t, "all", c, x, api.OK)
	}
	wantIds(t, "all held", c.Block([]int{4, 3, 2, 1, 0}))
	wantIds(t, "all stay", c.Pool(), ab, a, b, bd, d)
	wantIds(t, "one that is held is not in the way", c.Block([]int{0, 2, 3, 4, 0}), a)
	wantIds(t, "one that is held leaves, when it is spent by another one", c.Pool(), b, bd, d)
	wantIds(t, "places that there are not", c.Block([]int{-1, 3, 1, math.MinInt, math.MaxInt}), b, d)
	wantIds(t, "none is left", c.Pool())
	wantIds(t, "an empty block", c.Block(nil))
	if c.Height() != 4 || c.Fees() != 1+2+3 || c.All() != 99+48+17 {
		t.Error("Height", c.Height(), "Fees", c.Fees(), "All", c.All())
	}
	for i, at := range []int{2, 3, 3} {
		x, n, ok := c.Spent(api.Ref{Tx: c.First(), Out: i})
		if !ok || n != at || Id(x) != Id([]api.Tx{a, b, d}[i]) {
			t.Error("Spent", i, n, ok)
		}
	}
}

// P13.3: of two that spend one output the first one of the pool is confirmed, and within a block nothing is spent that it confirms.
func TestBlockFirst(t *testing.T) {
	c := begun(t, to(0, 100), to(1, 50))
	one := spend(c, []api.Out{to(0, 1)}, of(c, 0, 0))
	two := spend(c, []api.Out{to(0, 2)}, of(c, 0, 0))
	three := spend(c, []api.Out{to(0, 3)}, of(c, 0, 0), of(c, 1, 0))
	for _, x := range []api.Tx{three, two, one} {
		wantSubmit(t, "three", c, x, api.OK)
	}
	wantIds(t, "the first that is not held", c.Block([]int{0}), two)
	wantIds(t, "no other one stays", c.Pool())
	if _, _, ok := c.Spent(api.Ref{Tx: c.First(), Out: 1}); ok {
		t.Error("what was not confirmed spends")
	}
	wantSubmit(t, "what left, again", c, one, api.ErrSpent)
}

// P13.3: at MaxExpiry there are no further blocks.
func TestBlockEnd(t *testing.T) {
	c := begun(t, to(0, 100), to(1, 50))
	x, y := spend(c, []api.Out{to(0, 1)}, of(c, 0, 0)), spend(c, []api.Out{to(0, 1)}, of(c, 1, 0))
	// So many blocks take too long for a test.
	c.height = api.MaxExpiry - 1
	wantSubmit(t, "for the last block", c, x, api.OK)
	wantIds(t, "the last block", c.Block(nil), x)
	wantSubmit(t, "behind it", c, y, api.OK)
	for range 2 {
		wantIds(t, "no block", c.Block(nil))
		wantIds(t, "the pool", c.Pool(), y)
	}
	if _, at, ok := c.Confirmed(Id(x)); c.Height() != api.MaxExpiry || at != api.MaxExpiry || !ok || c.Fees() != 99 {
		t.Error("the end", c.Height(), at, ok, c.Fees())
	}
}

// P13.4: what a chain tells, and zeros and false of what there is not.
func TestLook(t *testing.T) {
	c := begun(t, to(0, 100), to(1, 50))
	x := spend(c, []api.Out{to(0, 40), to(1, 50)}, of(c, 0, 0))
	id := Id(x)
	first, gives := api.Ref{Tx: c.First()}, api.Ref{Tx: id, Out: 1}
	absent := func(what string, v any, at int, ok bool) {
		t.Helper()
		if ok || at != 0 || !reflect.ValueOf(v).IsZero() {
			t.Error(what, v, at, ok)
		}
	}
	wantSubmit(t, "x", c, x, api.OK)
	tx, at, ok := c.Confirmed(id)
	absent("Confirmed of the pool", tx, at, ok)
	tx, at, ok = c.Spent(first)
	absent("Spent by the pool", tx, at, ok)
	out, at, ok := c.Unspent(gives)
	absent("Unspent of the pool", out, at, ok)
	if out, at, ok := c.Unspent(first); !ok || at != 0 || !reflect.DeepEqual(out, to(0, 100)) {
		t.Error("Unspent of the beginning", out, at, ok)
	}
	c.Block(nil)
	out, at, ok = c.Unspent(first)
	absent("Unspent of what is spent", out, at, ok)
	if tx, at, ok := c.Spent(first); !ok || at != 1 || !reflect.DeepEqual(tx, x) {
		t.Error("Spent", tx, at, ok)
	}
	if tx, at, ok := c.Confirmed(id); !ok || at != 1 || !reflect.DeepEqual(tx, x) {
		t.Error("Confirmed", tx, at, ok)
	}
	if out, at, ok := c.Unspent(gives); !ok || at != 1 || !reflect.DeepEqual(out, to(1, 50)) {
		t.Error("Unspent", out, at, ok)
	}
	for _, r := range []api.Ref{{}, {Tx: id, Out: 2}, {Tx: id, Out: -1}, {Tx: c.First(), Out: math.MinInt}, {Tx: c.First(), Out: math.MaxInt}} {
		tx, at, ok = c.Spent(r)
		absent("Spent of nothing", tx, at, ok)
		out, at, ok = c.Unspent(r)
		absent("Unspent of nothing", out, at, ok)
	}
	tx, at, ok = c.Confirmed([32]byte{})
	absent("Confirmed of nothing", tx, at, ok)
	if c.Fees() != 10 || c.All() != 140 || c.Height() != 1 || c.First() != first.Tx {
		t.Error(c.Fees(), c.All(), c.Height())
	}
}

// P13.4: a chain that New did not make.
func TestNil(t *testing.T) {
	for _, c := range []*Chain{nil, {}} {
		if c.Submit(api.Tx{}) != api.ErrClosed || c.Submit(two()) != api.ErrClosed || c.Block([]int{0}) != nil || c.Pool() != nil {
			t.Error("Submit, Block, Pool")
		}
		if c.Tag(0, sevens()) != [32]byte{} || c.First() != [32]byte{} || c.Height() != 0 || c.Fees() != 0 || c.All() != 0 {
			t.Error("Tag, First, Height, Fees, All")
		}
		if x, at, ok := c.Confirmed([32]byte{}); ok || at != 0 || x.Ins != nil || x.Outs != nil {
			t.Error("Confirmed", x, at, ok)
		}
		if x, at, ok := c.Spent(api.Ref{}); ok || at != 0 || x.Ins != nil || x.Outs != nil {
			t.Error("Spent", x, at, ok)
		}
		if out, at, ok := c.Unspent(api.Ref{}); ok || at != 0 || out.Amount != 0 || out.Paths != nil {
			t.Error("Unspent", out, at, ok)
		}
	}
}
