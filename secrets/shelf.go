package secrets

import (
	"math/bits"

	"tollhouse/api"
)

// Shelf is secrets that were told, in order.
type Shelf struct {
	count int
	// The secret at k is one whose index has k low bits that are 0. It is there where the bit k of count is set:
	// as when 1 is added to count, a new secret stands at the lowest free place, and makes all those below it.
	kept [indexBits + 1][32]byte
}

// NewShelf is an empty one.
func NewShelf() *Shelf {
	return &Shelf{}
}

// Put takes the next secret, if it makes all that it should make.
func (s *Shelf) Put(secret [32]byte) api.Errno {
	switch {
	case s == nil:
		return api.ErrClosed
	case s.count == api.MaxSecrets:
		return api.ErrFull
	}
	place := lowZeros(indexOf(s.count))
	// One step to each secret that is kept below is enough: the others that were put are made by these.
	for k := range place {
		if turned(secret, k) != s.kept[k] {
			return api.ErrClash
		}
	}
	clear(s.kept[:place])
	s.kept[place] = secret
	s.count++
	return api.OK
}

// Get is the n-th secret that was put.
func (s *Shelf) Get(n int) ([32]byte, bool) {
	if n < 0 || n >= s.Len() {
		return [32]byte{}, false
	}
	place, from := makerOf(n, s.count)
	secret, e := Make(s.kept[place], from, n)
	return secret, e == api.OK
}

// Len is how many were put.
func (s *Shelf) Len() int {
	if s == nil {
		return 0
	}
	return s.count
}

// Kept is how many secrets make all that were put.
func (s *Shelf) Kept() int {
	return bits.OnesCount(uint(s.Len()))
}

// Fork is another shelf that is the same.
func (s *Shelf) Fork() *Shelf {
	if s == nil {
		return nil
	}
	other := *s
	return &other
}

// makerOf is where, of count secrets that were put, the one is kept that makes the n-th, and the how manyth it is.
func makerOf(n, count int) (place, from int) {
	// Of the highest bit in which the two differ it is count that has it: what is kept there
	// makes itself and all ahead of it that have the higher bits of count, so the n-th too.
	place = bits.Len(uint(n^count)) - 1
	return place, count>>place<<place - 1
}
