package chain

import (
	"crypto/sha3"
	"encoding/binary"
	"math/big"

	"tollhouse/api"
)

// plain is a chain as the document's words have it: blocks, and what waits; all else is looked up in them.
type plain struct {
	seed   [32]byte
	nodes  int
	blocks [][]numbered // block 0 is the beginning
	pool   []numbered
}

// numbered is a transaction, and its number.
type numbered struct {
	api.Tx
	id [32]byte
}

// bare is l without the numbers.
func bare(l []numbered) []api.Tx {
	var out []api.Tx
	for _, x := range l {
		out = append(out, x.Tx)
	}
	return out
}

func little(n int) []byte {
	return binary.LittleEndian.AppendUint64(nil, uint64(n))
}

func plainTag(key [32]byte, label string, part []byte) [32]byte {
	b := append([]byte{byte(len(label))}, label...)
	b = append(b, key[:]...)
	b = append(b, little(len(part))...)
	return sha3.Sum256(append(b, part...))
}

func (p *plain) tag(node int, id [32]byte) [32]byte {
	if node < 0 || node >= p.nodes {
		return [32]byte{}
	}
	return plainTag(plainTag(p.seed, "node", little(node)), "tx", id[:])
}

func plainMay(nodes int, t api.Tx) bool {
	refs := map[api.Ref]bool{}
	for _, in := range t.Ins {
		if refs[in.Ref] || in.Ref.Out < 0 || in.Path < 0 {
			return false
		}
		refs[in.Ref] = true
	}
	return len(t.Ins) >= 1 && len(t.Ins) <= 64 && plainMayOuts(nodes, t.Outs)
}

func plainMayOuts(nodes int, outs []api.Out) bool {
	sum := new(big.Int)
	for _, out := range outs {
		sum.Add(sum, big.NewInt(int64(out.Amount)))
		if out.Amount < 0 || len(out.Paths) < 1 || len(out.Paths) > 4 {
			return false
		}
		for _, p := range out.Paths {
			if p.A < 0 || p.A >= nodes || p.Two && (p.B < 0 || p.B >= nodes) || !p.Two && p.B != 0 ||
				p.Height < 0 || p.Height > 1<<31-1 || p.Delay < 0 || p.Delay > 1<<31-1 {
				return false
			}
		}
	}
	return len(outs) >= 1 && len(outs) <= 64 && sum.IsInt64()
}

// output is a confirmed output, and in which block.
func (p *plain) output(r api.Ref) (api.Out, int, bool) {
	x, at, ok := p.confirmed(r.Tx)
	if !ok || r.Out < 0 || r.Out >= len(x.Outs) {
		return api.Out{}, 0, false
	}
	return x.Outs[r.Out], at, true
}

func (p *plain) confirmed(id [32]byte) (api.Tx, int, bool) {
	for at, block := range p.blocks {
		for _, x := range block {
			if x.id == id {
				return x.Tx, at, true
			}
		}
	}
	return api.Tx{}, 0, false
}

func (p *plain) spent(r api.Ref) (api.Tx, int, bool) {
	for at, block := range p.blocks {
		for _, x := range block {
			for _, in := range x.Ins {
				if in.Ref == r {
					return x.Tx, at, true
				}
			}
		}
	}
	return api.Tx{}, 0, false
}

func (p *plain) open(id [32]byte, in api.In, height int) bool {
	out, at, ok := p.output(in.Ref)
	if _, _, spent := p.spent(in.Ref); !ok || spent || in.Path >= len(out.Paths) {
		return false
	}
	path := out.Paths[in.Path]
	if path.Height > height || path.Delay > height-at {
		return false
	}
	if path.Hash != [32]byte{} && sha3.Sum256(in.Secret[:]) != path.Hash {
		return false
	}
	if path.Two && in.TagB != p.tag(path.B, id) {
		return false
	}
	return in.TagA == p.tag(path.A, id)
}

func (p *plain) submit(x api.Tx) api.Errno {
	if !plainMay(p.nodes, x) {
		return api.ErrArg
	}
	id := Id(x)
	if _, _, ok := p.confirmed(id); ok {
		return api.ErrTwice
	}
	for _, other := range p.pool {
		if other.id == id {
			return api.ErrTwice
		}
	}
	if len(p.pool) == 256 {
		return api.ErrFull
	}
	for _, in := range x.Ins {
		if _, _, ok := p.output(in.Ref); !ok {
			return api.ErrNone
		}
	}
	for _, in := range x.Ins {
		if _, _, ok := p.spent(in.Ref); ok {
			return api.ErrSpent
		}
	}
	for _, in := range x.Ins {
		if !p.open(id, in, len(p.blocks)) {
			return api.ErrRule
		}
	}
	if p.paid(x) < 0 {
		return api.ErrOver
	}
	p.pool = append(p.pool, numbered{x, id})
	return api.OK
}

// paid is what x takes in more than it gives out.
func (p *plain) paid(x api.Tx) int {
	sum := 0
	for _, in := range x.Ins {
		out, _, _ := p.output(in.Ref)
		sum += out.Amount
	}
	for _, out := range x.Outs {
		sum -= out.Amount
	}
	return sum
}

func (p *plain) block(hold []int) []api.Tx {
	height := len(p.blocks)
	p.blocks = append(p.blocks, nil)
	var stay []numbered
	for i, x := range p.pool {
		held := false
		for _, place := range hold {
			held = held || place == i
		}
		all := true
		for _, in := range x.Ins {
			all = all && p.open(x.id, in, height)
		}
		if !held && all {
			p.blocks[height] = append(p.blocks[height], x)
		} else {
			stay = append(stay, x)
		}
	}
	p.pool = nil
	for _, x := range stay {
		gone := false
		for _, in := range x.Ins {
			_, _, spent := p.spent(in.Ref)
			gone = gone || spent
		}
		if !gone {
			p.pool = append(p.pool, x)
		}
	}
	return bare(p.blocks[height])
}

func (p *plain) fees() int {
	sum := 0
	for _, block := range p.blocks[1:] {
		for _, x := range block {
			sum += p.paid(x.Tx)
		}
	}
	return sum
}

func (p *plain) all() int {
	sum := 0
	for _, block := range p.blocks {
		for _, x := range block {
			for i, out := range x.Outs {
				if _, _, ok := p.spent(api.Ref{Tx: x.id, Out: i}); !ok {
					sum += out.Amount
				}
			}
		}
	}
	return sum
}
