package chain

import (
	"slices"

	"tollhouse/amount"
	"tollhouse/api"
	"tollhouse/keccak"
	"tollhouse/mac"
)

const (
	maxOuts = 64
	endIns  = 255 // the byte behind all inputs, in what a number is made of
	endOut  = 254 // the byte behind each output
)

// Id is a transaction's number. How it is shown that inputs may be spent is no part of it, as tags are made of the number.
func Id(t api.Tx) [32]byte {
	b := []byte("tx")
	number := func(n int) { b = append(b, mac.Bytes(uint64(n))...) }
	for _, in := range t.Ins {
		b = append(b, in.Ref.Tx[:]...)
		number(in.Ref.Out)
	}
	b = append(b, endIns)
	for _, out := range t.Outs {
		number(out.Amount)
		for _, p := range out.Paths {
			b = append(b, byte(p.A), byte(p.B), bit(p.Two))
			number(p.Height)
			number(p.Delay)
			b = append(b, p.Hash[:]...)
		}
		b = append(b, endOut)
	}
	return keccak.Sum(b)
}

// May tells whether t may be on a chain of so many nodes.
func May(nodes int, t api.Tx) bool {
	return mayNodes(nodes) && mayIns(t.Ins) && mayOuts(nodes, t.Outs)
}

func mayNodes(nodes int) bool {
	return nodes >= 1 && nodes <= api.MaxNodes
}

func mayIns(ins []api.In) bool {
	if len(ins) < 1 || len(ins) > api.MaxIns {
		return false
	}
	times := map[api.Ref]int{}
	return each(ins, func(in api.In) bool {
		times[in.Ref]++
		return in.Ref.Out >= 0 && in.Path >= 0 && times[in.Ref] == 1
	})
}

// mayOuts tells whether a transaction may have these outputs.
func mayOuts(nodes int, outs []api.Out) bool {
	if len(outs) < 1 || len(outs) > maxOuts {
		return false
	}
	if !each(outs, func(out api.Out) bool { return mayPaths(nodes, out.Paths) }) {
		return false
	}
	_, e := sum(outs...)
	return e == api.OK
}

// mayPaths tells whether an output may have these paths.
func mayPaths(nodes int, paths []api.Path) bool {
	if len(paths) < 1 || len(paths) > api.MaxPaths {
		return false
	}
	isNode := func(n int) bool { return n >= 0 && n < nodes }
	return each(paths, func(p api.Path) bool {
		second := p.B == 0
		if p.Two {
			second = isNode(p.B)
		}
		return isNode(p.A) && second && mayHeights(p.Height, p.Delay)
	})
}

// mayHeights tells whether each of l may be a height, or a number of blocks.
func mayHeights(l ...int) bool {
	return each(l, func(n int) bool { return n >= 0 && n <= api.MaxExpiry })
}

// sum is what outs have together; it is refused if one is no amount, or all are none.
func sum(outs ...api.Out) (int, api.Errno) {
	amounts := make([]int, len(outs))
	for i, out := range outs {
		amounts[i] = out.Amount
	}
	return amount.Sum(amounts...)
}

// each tells whether all of l are good.
func each[T any](l []T, good func(T) bool) bool {
	return !slices.ContainsFunc(l, func(x T) bool { return !good(x) })
}

func bit(yes bool) byte {
	if yes {
		return 1
	}
	return 0
}

// clone is t in memory of its own.
func clone(t api.Tx) api.Tx {
	return api.Tx{Ins: slices.Clone(t.Ins), Outs: cloneOuts(t.Outs)}
}

func cloneOuts(outs []api.Out) []api.Out {
	l := make([]api.Out, len(outs))
	for i, out := range outs {
		l[i] = cloneOut(out)
	}
	return l
}

func cloneOut(out api.Out) api.Out {
	return api.Out{Amount: out.Amount, Paths: slices.Clone(out.Paths)}
}
