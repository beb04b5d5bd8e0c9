package chain

import (
	"encoding/hex"
	"math"
	"testing"

	"tollhouse/api"
)

// counted is 32 bytes: 0, 1, 2, ..
func counted() (b [32]byte) {
	for i := range b {
		b[i] = byte(i)
	}
	return b
}

// sevens is 32 bytes that are 7.
func sevens() (b [32]byte) {
	for i := range b {
		b[i] = 7
	}
	return b
}

// to is an output that one node may spend.
func to(node, sum int) api.Out {
	return api.Out{Amount: sum, Paths: []api.Path{{A: node}}}
}

// P13.1: numbers that were worked out by another program, of transactions that may be and of others.
func TestIdKnown(t *testing.T) {
	for _, c := range []struct {
		want string
		tx   api.Tx
	}{
		{"aabcc6862c2f02758051b7206d9cd7b12236b56ffe399659acae05ffe91817fe", api.Tx{}},
		{"e8da7670e508191515784cf806c5c2fba8f33d6a2b34e71f277d43641376df4f", api.Tx{Outs: []api.Out{to(0, 100)}}},
		{"51080d9c944fa945b44fb6e6119532e7e19577a658da1671f26e180f418f06b5", api.Tx{
			Ins: []api.In{{Ref: api.Ref{Tx: counted(), Out: 1}, Path: 3}, {Ref: api.Ref{Out: 0x0102030405}, Secret: sevens()}},
			Outs: []api.Out{
				{Amount: api.MaxMsat, Paths: []api.Path{{A: 0, B: 1, Two: true, Height: 3}, {A: 1, Height: api.MaxExpiry, Delay: 1000, Hash: sevens()}}},
				{Amount: 5, Paths: []api.Path{{A: 7, Delay: 144}}},
			},
		}},
		{"4ffeeb24ab82c82820af0b4f7753b919df9743e12c51f7c9a207f2636853686e", api.Tx{
			Ins: []api.In{{Ref: api.Ref{Tx: counted(), Out: -1}}},
			Outs: []api.Out{
				{Amount: -5, Paths: []api.Path{{A: -1, B: 300, Two: true, Height: -2, Delay: -3, Hash: counted()}}},
				{},
			},
		}},
	} {
		id := Id(c.tx)
		if hex.EncodeToString(id[:]) != c.want {
			t.Errorf("Id(%v) = %x, want %s", c.tx, id, c.want)
		}
	}
}

// two is a transaction of two inputs and two outputs.
func two() api.Tx {
	return api.Tx{
		Ins: []api.In{{Ref: api.Ref{Tx: counted(), Out: 1}}, {Ref: api.Ref{Tx: sevens(), Out: 2}}},
		Outs: []api.Out{
			{Amount: 10, Paths: []api.Path{{A: 1, B: 2, Two: true, Height: 5, Delay: 6, Hash: sevens()}, {A: 2}}},
			to(1, 20),
		},
	}
}

// P13.1: what is a part of the number, and what is none.
func TestIdHangsOn(t *testing.T) {
	id := Id(two())
	for name, change := range map[string]func(x *api.Tx){
		"Tx":         func(x *api.Tx) { x.Ins[0].Ref.Tx[31]++ },
		"Out":        func(x *api.Tx) { x.Ins[1].Ref.Out++ },
		"an input":   func(x *api.Tx) { x.Ins = x.Ins[:1] },
		"order":      func(x *api.Tx) { x.Ins[0], x.Ins[1] = x.Ins[1], x.Ins[0] },
		"Amount":     func(x *api.Tx) { x.Outs[1].Amount++ },
		"A":          func(x *api.Tx) { x.Outs[0].Paths[1].A++ },
		"B":          func(x *api.Tx) { x.Outs[0].Paths[0].B++ },
		"Two":        func(x *api.Tx) { x.Outs[0].Paths[0].Two = false },
		"Height":     func(x *api.Tx) { x.Outs[0].Paths[0].Height++ },
		"Delay":      func(x *api.Tx) { x.Outs[0].Paths[0].Delay++ },
		"Hash":       func(x *api.Tx) { x.Outs[0].Paths[0].Hash[31]++ },
		"a path":     func(x *api.Tx) { x.Outs[0].Paths = x.Outs[0].Paths[:1] },
		"an output":  func(x *api.Tx) { x.Outs = x.Outs[:1] },
		"their turn": func(x *api.Tx) { x.Outs[0], x.Outs[1] = x.Outs[1], x.Outs[0] },
	} {
		x := two()
		change(&x)
		if Id(x) == id {
			t.Errorf("another %s, and the same number", name)
		}
	}
	x := two()
	x.Ins[0].Path, x.Ins[0].Secret, x.Ins[0].TagA, x.Ins[0].TagB = 1, sevens(), sevens(), sevens()
	if Id(x) != id {
		t.Error("how inputs are spent is a part of the number")
	}
}

// P13.1: which transactions may be, with 3 nodes.
func TestMay(t *testing.T) {
	for _, c := range []struct {
		name   string
		change func(x *api.Tx)
		want   bool
	}{
		{"as it is", func(x *api.Tx) {}, true},
		{"no inputs", func(x *api.Tx) { x.Ins = nil }, false},
		{"64 inputs", func(x *api.Tx) { x.Ins = manyIns(64) }, true},
		{"65 inputs", func(x *api.Tx) { x.Ins = manyIns(65) }, false},
		{"two of one output", func(x *api.Tx) { x.Ins = append(manyIns(5), x.Ins[0], x.Ins[0]) }, false},
		{"two of one output by two paths", func(x *api.Tx) { x.Ins[1].Ref, x.Ins[1].Path = x.Ins[0].Ref, 1 }, false},
		{"two outputs of one", func(x *api.Tx) { x.Ins[1].Ref.Tx = x.Ins[0].Ref.Tx }, true},
		{"one place in two", func(x *api.Tx) { x.Ins[1].Ref.Out = x.Ins[0].Ref.Out }, true},
		{"Out 0", func(x *api.Tx) { x.Ins[1].Ref.Out = 0 }, true},
		{"Out -1", func(x *api.Tx) { x.Ins[1].Ref.Out = -1 }, false},
		{"a great Out", func(x *api.Tx) { x.Ins[1].Ref.Out = math.MaxInt }, true},
		{"Path -1", func(x *api.Tx) { x.Ins[0].Path = -1 }, false},
		{"a great Path", func(x *api.Tx) { x.Ins[0].Path = math.MaxInt }, true},
		{"no outputs", func(x *api.Tx) { x.Outs = nil }, false},
		{"64 outputs", func(x *api.Tx) { x.Outs = manyOuts(64) }, true},
		{"65 outputs", func(x *api.Tx) { x.Outs = manyOuts(65) }, false},
		{"Amount 0", func(x *api.Tx) { x.Outs[0].Amount = 0 }, true},
		{"Amount -1", func(x *api.Tx) { x.Outs[0].Amount = -1 }, false},
		{"the least Amount", func(x *api.Tx) { x.Outs[1].Amount = math.MinInt }, false},
		{"MaxMsat in all", func(x *api.Tx) { x.Outs[0].Amount = api.MaxMsat - 20 }, true},
		{"more than MaxMsat in all", func(x *api.Tx) { x.Outs[0].Amount = api.MaxMsat - 19 }, false},
		{"no paths", func(x *api.Tx) { x.Outs[1].Paths = nil }, false},
		{"4 paths", func(x *api.Tx) { x.Outs[1].Paths = make([]api.Path, 4) }, true},
		{"5 paths", func(x *api.Tx) { x.Outs[1].Paths = make([]api.Path, 5) }, false},
		{"A 2", func(x *api.Tx) { x.Outs[1].Paths[0].A = 2 }, true},
		{"A 3", func(x *api.Tx) { x.Outs[1].Paths[0].A = 3 }, false},
		{"A -1", func(x *api.Tx) { x.Outs[1].Paths[0].A = -1 }, false},
		{"A 256", func(x *api.Tx) { x.Outs[1].Paths[0].A = 256 }, false},
		{"B of one", func(x *api.Tx) { x.Outs[1].Paths[0].B = 1 }, false},
		{"B 0 of two", func(x *api.Tx) { x.Outs[0].Paths[0].B = 0 }, true},
		{"B 3 of two", func(x *api.Tx) { x.Outs[0].Paths[0].B = 3 }, false},
		{"B -1 of two", func(x *api.Tx) { x.Outs[0].Paths[0].B = -1 }, false},
		{"A and B the same", func(x *api.Tx) { x.Outs[0].Paths[0].B = 1 }, true},
		{"Height MaxExpiry", func(x *api.Tx) { x.Outs[0].Paths[0].Height = api.MaxExpiry }, true},
		{"Height beyond", func(x *api.Tx) { x.Outs[0].Paths[0].Height = api.MaxExpiry + 1 }, false},
		{"Height -1", func(x *api.Tx) { x.Outs[0].Paths[0].Height = -1 }, false},
		{"Delay MaxExpiry", func(x *api.Tx) { x.Outs[0].Paths[1].Delay = api.MaxExpiry }, true},
		{"Delay beyond", func(x *api.Tx) { x.Outs[0].Paths[1].Delay = api.MaxExpiry + 1 }, false},
		{"Delay -1", func(x *api.Tx) { x.Outs[0].Paths[1].Delay = -1 }, false},
	} {
		x := two()
		c.change(&x)
		if May(3, x) != c.want || plainMay(3, x) != c.want {
			t.Errorf("%s: May = %v, want %v", c.name, May(3, x), c.want)
		}
	}
}

// P13.1: chains have 1 to 8 nodes, and no others may be.
func TestMayNodes(t *testing.T) {
	for nodes, want := range map[int]bool{math.MinInt: false, -1: false, 0: false, 1: true, 8: true, 9: false, math.MaxInt: false} {
		x := api.Tx{Ins: manyIns(1), Outs: []api.Out{to(0, 1)}}
		if May(nodes, x) != want {
			t.Errorf("May(%d, ..) = %v", nodes, !want)
		}
		x.Outs[0].Paths[0].A = nodes
		if May(nodes, x) {
			t.Errorf("May(%d, ..) of a node that there is not", nodes)
		}
	}
}

func manyIns(n int) []api.In {
	l := make([]api.In, n)
	for i := range l {
		l[i].Ref.Out = 100 + i
	}
	return l
}

func manyOuts(n int) []api.Out {
	l := make([]api.Out, n)
	for i := range l {
		l[i] = to(i%3, i)
	}
	return l
}
