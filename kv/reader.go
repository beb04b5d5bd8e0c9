package kv

import (
	"tollhouse/api"
	"tollhouse/bigsize"
)

// reader takes a batch's bytes from the front on. Once they were wrong, it has none any more, and all that it answers is nothing.
type reader struct {
	rest  []byte
	wrong bool
}

func (r *reader) put() api.Put {
	p := api.Put{Key: string(r.piece(1, api.MaxKey))}
	// A number of one byte is that byte.
	p.Gone = r.number(isGone) == isGone
	if !p.Gone {
		p.Value = append([]byte(nil), r.piece(0, api.MaxValue)...)
	}
	return p
}

// piece is the next bytes, with their length ahead, if that may be.
func (r *reader) piece(least, most int) []byte {
	n := r.number(most)
	if n < least || n > len(r.rest) {
		r.fail()
		return nil
	}
	return r.take(n)
}

// number is the next number, if it is not above most.
func (r *reader) number(most int) int {
	x, size, e := bigsize.Read(r.rest)
	if e != api.OK || x > uint64(most) {
		r.fail()
		return 0
	}
	r.take(size)
	return int(x)
}

func (r *reader) take(n int) []byte {
	b := r.rest[:n]
	r.rest = r.rest[n:]
	return b
}

func (r *reader) fail() {
	r.rest, r.wrong = nil, true
}
