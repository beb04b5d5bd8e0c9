package log

import (
	"iter"
	"slices"

	"tollhouse/api"
	"tollhouse/keccak"
)

const (
	lengthSize = 4
	checkSize  = 8
	headSize   = lengthSize + checkSize
)

// Record is the i-th record of a file.
func Record(i int, payload []byte) ([]byte, api.Errno) {
	switch {
	case len(payload) > api.MaxEntry:
		return nil, api.ErrLong
	case i < 0:
		return nil, api.ErrArg
	}
	first := head(i, payload)
	b := make([]byte, 0, headSize+len(payload))
	b = append(b, first[:]...)
	return append(b, payload...), api.OK
}

// Scan is the payloads of b's whole part, and how many bytes that has.
func Scan(b []byte) ([][]byte, int) {
	var payloads [][]byte
	size := 0
	for payload := range wholePart(b) {
		payloads = append(payloads, slices.Clone(payload))
		size += headSize + len(payload)
	}
	return payloads, size
}

// wholePart goes over the payloads of b's whole part; they are pieces of b.
func wholePart(b []byte) iter.Seq[[]byte] {
	return func(yield func([]byte) bool) {
		rest := b
		for i := 0; ; i++ {
			payload, ok := payloadAhead(i, rest)
			if !ok || !yield(payload) {
				return
			}
			rest = rest[headSize+len(payload):]
		}
	}
}

// payloadAhead is the payload of the i-th record, if b begins with that.
func payloadAhead(i int, b []byte) ([]byte, bool) {
	if len(b) < headSize {
		return nil, false
	}
	size := fromLow(b[:lengthSize])
	if size > api.MaxEntry || size > uint64(len(b)-headSize) {
		return nil, false
	}
	payload := b[headSize : headSize+int(size)]
	return payload, [headSize]byte(b) == head(i, payload)
}

// head is what stands ahead of the i-th record's payload. The digest is of i too, so that a record is none in another place.
func head(i int, payload []byte) [headSize]byte {
	digest := keccak.Sum([]byte("log"), low(uint64(i), 8), payload)
	var h [headSize]byte
	copy(h[:], low(uint64(len(payload)), lengthSize))
	copy(h[lengthSize:], digest[:checkSize])
	return h
}

// low is the lowest n bytes of x, the lowest first.
func low(x uint64, n int) []byte {
	b := make([]byte, n)
	for i := range b {
		b[i] = byte(x >> (8 * i))
	}
	return b
}

// fromLow is the number whose bytes are b, the lowest first.
func fromLow(b []byte) uint64 {
	x := uint64(0)
	for i, c := range b {
		x |= uint64(c) << (8 * i)
	}
	return x
}
