package onion

import (
	"bytes"

	"tollhouse/api"
	"tollhouse/mac"
)

// An error on its way back is a tag, and a reason with zeros behind.
const (
	reasonAt   = 32
	reasonSize = 64
	failSize   = reasonAt + reasonSize
)

// Fail is the error that arises for reason where key is the packet's.
func Fail(key [32]byte, reason []byte) ([]byte, api.Errno) {
	long := len(reason)
	if long > reasonSize || long > 0 && reason[long-1] == 0 {
		return nil, api.ErrArg
	}
	b := make([]byte, failSize)
	copy(b[reasonAt:], reason)
	tag := failTag(key, b)
	copy(b, tag[:])
	return Wrap(key, b)
}

// Wrap is the error b as it goes on from where key is the packet's.
func Wrap(key [32]byte, b []byte) ([]byte, api.Errno) {
	if len(b) != failSize {
		return nil, api.ErrCode
	}
	return mac.Mask(key, "back", b), api.OK
}

// Unwrap finds at which of the keys, those of a way's nodes, the error b arose, and its reason.
func Unwrap(keys [][32]byte, b []byte) (int, []byte, api.Errno) {
	if len(b) != failSize {
		return 0, nil, api.ErrCode
	}
	for i, key := range keys {
		// What is masked twice is as it was: to wrap is to unwrap.
		b, _ = Wrap(key, b)
		if tag := failTag(key, b); mac.Equal(tag[:], b[:reasonAt]) {
			return i, bytes.TrimRight(b[reasonAt:], "\x00"), api.OK
		}
	}
	return 0, nil, api.ErrNone
}

// failTag is the tag of the error b, which is not masked, where it arose.
func failTag(key [32]byte, b []byte) [32]byte {
	return mac.Tag(key, "fail", b[reasonAt:])
}
