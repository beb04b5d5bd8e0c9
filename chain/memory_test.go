package chain

import (
	"reflect"
	"testing"

	"tollhouse/api"
)

// wide is l with room behind its end, filled.
func wide[T any](l []T, fill T) []T {
	b := append(append(make([]T, 0, len(l)+3), l...), fill, fill, fill)
	return b[:len(l)]
}

// roomy is x, all of whose lists have room behind their ends.
func roomy(x api.Tx) api.Tx {
	x.Ins = wide(x.Ins, api.In{Path: 77})
	x.Outs = wide(x.Outs, api.Out{Amount: 77})
	for i := range x.Outs {
		x.Outs[i].Paths = wide(x.Outs[i].Paths, api.Path{A: 77})
	}
	return x
}

// whole is x with the room behind its lists' ends.
func whole(x api.Tx) api.Tx {
	x = api.Tx{Ins: x.Ins[:cap(x.Ins)], Outs: append([]api.Out{}, x.Outs[:cap(x.Outs)]...)}
	for i, out := range x.Outs {
		x.Outs[i].Paths = out.Paths[:cap(out.Paths)]
	}
	return x
}

// spoil writes over all that x has, and over the room behind.
func spoil(x api.Tx) {
	ins, outs := x.Ins[:cap(x.Ins)], x.Outs[:cap(x.Outs)]
	for i := range ins {
		ins[i] = api.In{Path: 99}
	}
	for i, out := range outs {
		paths := out.Paths[:cap(out.Paths)]
		for k := range paths {
			paths[k] = api.Path{A: 99}
		}
		outs[i] = api.Out{Amount: 99}
	}
}

// copied is x in memory of its own, made apart.
func copied(x api.Tx) api.Tx {
	y := api.Tx{Ins: append([]api.In(nil), x.Ins...)}
	for _, out := range x.Outs {
		y.Outs = append(y.Outs, api.Out{Amount: out.Amount, Paths: append([]api.Path(nil), out.Paths...)})
	}
	return y
}

// R3: what is handed in is neither changed nor kept.
func TestArguments(t *testing.T) {
	begin := roomy(api.Tx{Outs: []api.Out{to(0, 100), to(1, 50)}})
	ahead := copied(whole(begin))
	c, e := New([32]byte{1}, 3, begin.Outs)
	if e != api.OK || !reflect.DeepEqual(whole(begin).Outs, ahead.Outs) {
		t.Fatal("New changed outs", e)
	}
	spoil(begin)
	x := roomy(spend(c, []api.Out{to(0, 40), to(2, 50)}, of(c, 0, 0)))
	y := copied(x)
	ahead = copied(whole(x))
	if Id(x) != Id(y) || !May(3, x) || c.Submit(x) != api.OK || !reflect.DeepEqual(whole(x), ahead) {
		t.Fatal("Id, May, Submit")
	}
	spoil(x)
	if pool := c.Pool(); len(pool) != 1 || !reflect.DeepEqual(pool[0], y) {
		t.Fatal("Pool", pool)
	}
	hold := wide([]int{5, 7}, 0)
	if l := c.Block(hold); len(l) != 1 || !reflect.DeepEqual(l[0], y) || !reflect.DeepEqual(hold[:5], []int{5, 7, 0, 0, 0}) {
		t.Fatal("Block", l, hold[:5])
	}
	if out, _, ok := c.Unspent(api.Ref{Tx: c.First(), Out: 1}); !ok || !reflect.DeepEqual(out, to(1, 50)) {
		t.Error("the beginning", out, ok)
	}
}

// R3: what is answered shares nothing with what the chain keeps, nor with other answers.
func TestAnswers(t *testing.T) {
	c := begun(t, to(0, 100), to(1, 50))
	a := spend(c, []api.Out{to(0, 40), to(2, 50)}, of(c, 0, 0))
	b := spend(c, []api.Out{to(1, 50)}, of(c, 1, 0))
	wantSubmit(t, "a", c, a, api.OK)
	wantSubmit(t, "b", c, b, api.OK)
	pool := c.Pool()
	spoil(pool[0])
	if !reflect.DeepEqual(pool[1], b) || !reflect.DeepEqual(c.Pool(), []api.Tx{a, b}) {
		t.Error("Pool")
	}
	block := c.Block(nil)
	spoil(block[0])
	if !reflect.DeepEqual(block[1], b) {
		t.Error("Block")
	}
	clear(block[:cap(block)])
	for range 2 {
		x, _, _ := c.Confirmed(Id(a))
		y, _, _ := c.Spent(api.Ref{Tx: c.First()})
		if !reflect.DeepEqual(x, a) || !reflect.DeepEqual(y, a) {
			t.Fatal("Confirmed, Spent", x, y)
		}
		spoil(x)
		if !reflect.DeepEqual(y, a) {
			t.Fatal("Spent shares with Confirmed")
		}
		spoil(y)
		out, _, _ := c.Unspent(api.Ref{Tx: Id(a), Out: 1})
		if !reflect.DeepEqual(out, to(2, 50)) {
			t.Fatal("Unspent", out)
		}
		spoil(api.Tx{Outs: []api.Out{out}})
		first, _, _ := c.Confirmed(c.First())
		if !reflect.DeepEqual(first.Outs, []api.Out{to(0, 100), to(1, 50)}) {
			t.Fatal("the beginning", first)
		}
		spoil(first)
	}
	// The pool was emptied: what comes new does not lie where answers lie.
	wantSubmit(t, "d", c, spend(c, []api.Out{to(1, 1)}, api.In{Ref: api.Ref{Tx: Id(b)}}), api.OK)
	if c.Fees() != 10 || c.All() != 140 {
		t.Error("Fees", c.Fees(), "All", c.All())
	}
}
