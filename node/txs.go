package node

import (
	"tollhouse/api"
	"tollhouse/bigsize"
)

// txsBytes is transactions as they are kept, one behind the other.
func txsBytes(l []api.Tx) []byte {
	var b []byte
	for _, tx := range l {
		b = putNumber(b, len(tx.Ins))
		for _, in := range tx.Ins {
			b = putIn(b, in)
		}
		b = putNumber(b, len(tx.Outs))
		for _, out := range tx.Outs {
			b = putOut(b, out)
		}
	}
	return b
}

func putIn(b []byte, in api.In) []byte {
	b = append(b, in.Ref.Tx[:]...)
	b = putNumber(b, in.Ref.Out)
	b = putNumber(b, in.Path)
	b = append(b, in.Secret[:]...)
	b = append(b, in.TagA[:]...)
	return append(b, in.TagB[:]...)
}

func putOut(b []byte, out api.Out) []byte {
	b = putNumber(b, out.Amount)
	b = putNumber(b, len(out.Paths))
	for _, p := range out.Paths {
		b = putNumber(b, p.A)
		b = putNumber(b, p.B)
		b = putNumber(b, flag(p.Two))
		b = putNumber(b, p.Height)
		b = putNumber(b, p.Delay)
		b = append(b, p.Hash[:]...)
	}
	return b
}

func flag(yes bool) int {
	if yes {
		return 1
	}
	return 0
}

// readTxs reads all transactions of b into l, and tells whether b is such.
func readTxs(b []byte, l *[]api.Tx) bool {
	r := reader{rest: b}
	for len(r.rest) > 0 {
		*l = append(*l, api.Tx{Ins: items(&r, r.in), Outs: items(&r, r.out)})
	}
	return r.ended()
}

// reader takes bytes from the front on. Once they were wrong, it has none any more, and all that it answers is nothing.
type reader struct {
	rest  []byte
	wrong bool
}

// items is a list of what next reads, with its length ahead.
func items[T any](r *reader, next func() T) []T {
	n := r.number()
	// Each has a byte at least: no list is made for more than there can be.
	if n < 0 || n > len(r.rest) {
		r.fail()
		return nil
	}
	var l []T
	for range n {
		l = append(l, next())
	}
	return l
}

func (r *reader) in() api.In {
	in := api.In{Ref: api.Ref{Tx: r.array(), Out: r.number()}, Path: r.number()}
	in.Secret, in.TagA, in.TagB = r.array(), r.array(), r.array()
	return in
}

func (r *reader) out() api.Out {
	return api.Out{Amount: r.number(), Paths: items(r, r.path)}
}

func (r *reader) path() api.Path {
	return api.Path{A: r.number(), B: r.number(), Two: r.number() == flag(true), Height: r.number(), Delay: r.number(), Hash: r.array()}
}

func (r *reader) number() int {
	x, size, e := bigsize.Read(r.rest)
	if e != api.OK {
		r.fail()
		return 0
	}
	r.rest = r.rest[size:]
	return int(x)
}

func (r *reader) array() [32]byte {
	if len(r.rest) < 32 {
		r.fail()
		return [32]byte{}
	}
	a := [32]byte(r.rest)
	r.rest = r.rest[32:]
	return a
}

// ended tells whether all was read, and nothing was wrong.
func (r *reader) ended() bool {
	return !r.wrong && len(r.rest) == 0
}

func (r *reader) fail() {
	r.rest, r.wrong = nil, true
}
