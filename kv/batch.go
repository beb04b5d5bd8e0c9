package kv

import (
	"tollhouse/api"
	"tollhouse/bigsize"
)

// The byte between a put's key and its value.
const (
	isThere = 0
	isGone  = 1
)

// Encode is the bytes of a batch.
func Encode(l []api.Put) ([]byte, api.Errno) {
	for _, p := range l {
		if !mayPut(p) {
			return nil, api.ErrArg
		}
	}
	if !fits(l...) {
		return nil, api.ErrLong
	}
	b := number(len(l))
	for _, p := range l {
		b = append(b, bytesOf(p)...)
	}
	return b, api.OK
}

// Decode is the puts of a batch's bytes.
func Decode(b []byte) ([]api.Put, api.Errno) {
	// Encode never makes more.
	if len(b) > api.MaxEntry {
		return nil, api.ErrCode
	}
	r := reader{rest: b}
	l := make([]api.Put, r.number(api.MaxPuts))
	for i := range l {
		l[i] = r.put()
	}
	if r.wrong || len(r.rest) > 0 {
		return nil, api.ErrCode
	}
	return l, api.OK
}

func mayPut(p api.Put) bool {
	if p.Gone && len(p.Value) > 0 {
		return false
	}
	return len(p.Key) >= 1 && len(p.Key) <= api.MaxKey && len(p.Value) <= api.MaxValue
}

// fits tells whether these puts may be one batch.
func fits(l ...api.Put) bool {
	if len(l) > api.MaxPuts {
		return false
	}
	size := sizeOfNumber(len(l))
	for _, p := range l {
		size += sizeOf(p)
	}
	return size <= api.MaxEntry
}

// sizeOf is how many bytes a put has in a batch.
func sizeOf(p api.Put) int {
	size := sizeOfNumber(len(p.Key)) + len(p.Key) + 1
	if !p.Gone {
		size += sizeOfNumber(len(p.Value)) + len(p.Value)
	}
	return size
}

// bytesOf is a put's bytes in a batch.
func bytesOf(p api.Put) []byte {
	b := append(number(len(p.Key)), p.Key...)
	if p.Gone {
		return append(b, isGone)
	}
	b = append(b, isThere)
	b = append(b, number(len(p.Value))...)
	return append(b, p.Value...)
}

func number(n int) []byte {
	return bigsize.Put(nil, uint64(n))
}

func sizeOfNumber(n int) int {
	return bigsize.Size(uint64(n))
}
