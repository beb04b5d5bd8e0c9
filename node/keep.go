package node

import (
	"bytes"

	"tollhouse/api"
	"tollhouse/kv"
)

// putsOf is how the input in is kept as the number-th: its bytes, in parts that are as long as values may be.
func putsOf(number int, in api.Input) ([]api.Put, bool) {
	b, ok := encode(in)
	if !ok {
		return nil, false
	}
	var puts []api.Put
	for len(b) > 0 {
		size := min(len(b), api.MaxValue)
		puts = append(puts, api.Put{Key: keyOf(number, len(puts)), Value: b[:size]})
		b = b[size:]
	}
	return puts, true
}

// kept is all inputs that a store has, in order; false, if it has something else.
func kept(s *kv.Store) ([]api.Input, bool) {
	var inputs []api.Input
	var b []byte // the parts so far of the next input
	parts, whole := 0, true
	end := func() {
		if in, ok := decode(b); ok {
			inputs = append(inputs, in)
		} else {
			whole = false
		}
		b, parts = nil, 0
	}
	for key, value := range s.Range("", "") {
		if parts > 0 && key != keyOf(len(inputs), parts) {
			end()
		}
		whole = whole && key == keyOf(len(inputs), parts)
		if !whole {
			break
		}
		b = append(b, value...)
		parts++
	}
	if parts > 0 {
		end()
	}
	return inputs, whole
}

// keyOf is the key of a part of the number-th input: the highest bytes first, so that keys rise as they are read.
func keyOf(number, part int) string {
	var key []byte
	for shift := 56; shift >= 0; shift -= 8 {
		key = append(key, byte(number>>shift))
	}
	return string(append(key, byte(part)))
}

// decode is the input of these bytes, if they are just what one is kept as.
func decode(b []byte) (api.Input, bool) {
	in, ok := read(b)
	if !ok {
		return api.Input{}, false
	}
	again, ok := encode(in)
	return in, ok && bytes.Equal(again, b)
}
