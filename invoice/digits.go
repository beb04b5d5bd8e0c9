package invoice

import (
	"strings"

	"tollhouse/api"
)

// digits are 0 to 31.
const digits = "qpzry9x8gf2tvdw0s3jn54khce6mua7l"

const (
	digitBits = 5
	byteBits  = 8
)

// Digits is b as digits; the last one is filled with bits 0.
func Digits(b []byte) string {
	values, rest, left := regrouped(b, byteBits, digitBits)
	if left > 0 {
		values = append(values, rest<<(digitBits-left))
	}
	for i, value := range values {
		values[i] = digits[value]
	}
	return string(values)
}

// Bytes is the bytes of which s is the digits.
func Bytes(s string) ([]byte, api.Errno) {
	values := make([]byte, 0, len(s))
	for _, letter := range s {
		value := strings.IndexRune(digits, letter)
		if value < 0 {
			return nil, api.ErrCode
		}
		values = append(values, byte(value))
	}
	b, rest, left := regrouped(values, digitBits, byteBits)
	// Bytes have one form only: the last digit is there for a bit of them, and its other bits say nothing.
	if left >= digitBits || rest != 0 {
		return nil, api.ErrCode
	}
	return b, api.OK
}

// regrouped takes the bits of groups that have from bits each, the highest first, in groups of to bits; what is left over at the end is rest, of left bits.
func regrouped(groups []byte, from, to int) (out []byte, rest byte, left int) {
	out = make([]byte, 0, len(groups)*from/to+1)
	held := uint(0)
	for _, group := range groups {
		held = held<<from | uint(group)
		left += from
		for left >= to {
			left -= to
			out = append(out, byte(held>>left))
			held &= 1<<left - 1
		}
	}
	return out, byte(held), left
}
