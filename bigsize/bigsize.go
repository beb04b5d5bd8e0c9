// Package bigsize is layer 1: numbers and streams of records. See shared/doc/01-bigsize.md.
package bigsize

import "tollhouse/api"

// The first byte of a number that has two, four or eight bytes more; a lower first byte is the number itself.
const (
	markTwo   = 0xFD
	markFour  = 0xFE
	markEight = 0xFF
)

// Size is how many bytes the number x takes.
func Size(x uint64) int {
	switch {
	case x < markTwo:
		return 1
	case x <= 0xFFFF:
		return 3
	case x <= 0xFFFFFFFF:
		return 5
	}
	return 9
}

// Put is b with the number x behind, in new memory.
func Put(b []byte, x uint64) []byte {
	out := make([]byte, 0, len(b)+Size(x))
	out = append(out, b...)
	return appendNumber(out, x)
}

// Read is the number with which b begins, and how many bytes it has.
func Read(b []byte) (uint64, int, api.Errno) {
	if len(b) == 0 {
		return 0, 0, api.ErrCode
	}
	size := sizeBehind(b[0])
	if len(b) < size {
		return 0, 0, api.ErrCode
	}
	x := uint64(b[0])
	if size > 1 {
		x = fromHigh(b[1:size])
	}
	// A number has one form only, or what is decoded would not be encoded as it was.
	if Size(x) != size {
		return 0, 0, api.ErrCode
	}
	return x, size, api.OK
}

// sizeBehind is how many bytes a number has that begins with first.
func sizeBehind(first byte) int {
	switch first {
	case markTwo:
		return 3
	case markFour:
		return 5
	case markEight:
		return 9
	}
	return 1
}

// appendNumber may write into the spare room of b: callers own it.
func appendNumber(b []byte, x uint64) []byte {
	switch Size(x) {
	case 3:
		return appendHigh(append(b, markTwo), x, 2)
	case 5:
		return appendHigh(append(b, markFour), x, 4)
	case 9:
		return appendHigh(append(b, markEight), x, 8)
	}
	return append(b, byte(x))
}

// appendHigh appends the lowest n bytes of x, the highest of them first.
func appendHigh(b []byte, x uint64, n int) []byte {
	for i := n - 1; i >= 0; i-- {
		b = append(b, byte(x>>(8*i)))
	}
	return b
}

// fromHigh is the number whose bytes are b, the highest first.
func fromHigh(b []byte) uint64 {
	x := uint64(0)
	for _, c := range b {
		x = x<<8 | uint64(c)
	}
	return x
}
