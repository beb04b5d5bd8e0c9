package node

import (
	"bytes"
	"slices"
	"strconv"
	"strings"

	"tollhouse/api"
	"tollhouse/kv"
)

// Keys of inputs have numbers of so many digits, so that they rise with these.
const (
	numberDigits = 10
	partDigits   = 2
)

// putsOf is how the input in is kept as the number-th: its bytes, in parts that are as long as values may be.
func putsOf(number int, in api.Input) ([]api.Put, bool) {
	b, ok := encode(in)
	if !ok {
		return nil, false
	}
	var puts []api.Put
	for part := range slices.Chunk(b, api.MaxValue) {
		puts = append(puts, api.Put{Key: keyOf(number, len(puts)), Value: part})
	}
	return puts, true
}

// kept is all inputs that a store has, in order; false, if it has something else.
func kept(s *kv.Store) ([]api.Input, bool) {
	var inputs []api.Input
	var b []byte // the parts so far of the next input
	parts, whole := 0, true
	end := func() {
		if in, ok := decode(b); ok {
			inputs = append(inputs, in)
		} else {
			whole = false
		}
		b, parts = nil, 0
	}
	for key, value := range s.Range("", "") {
		if parts > 0 && key != keyOf(len(inputs), parts) {
			end()
		}
		whole = whole && key == keyOf(len(inputs), parts)
		if !whole {
			break
		}
		b = append(b, value...)
		parts++
	}
	if parts > 0 {
		end()
	}
	return inputs, whole
}

// keyOf is the key of a part of the number-th input.
func keyOf(number, part int) string {
	return digits(number, numberDigits) + "-" + digits(part, partDigits)
}

// digits is n with noughts ahead, so that it has so many digits.
func digits(n, size int) string {
	s := strconv.Itoa(n)
	return strings.Repeat("0", max(0, size-len(s))) + s
}

// decode is the input of these bytes, if they are just what one is kept as.
func decode(b []byte) (api.Input, bool) {
	in, ok := read(b)
	if !ok {
		return api.Input{}, false
	}
	again, ok := encode(in)
	return in, ok && bytes.Equal(again, b)
}
