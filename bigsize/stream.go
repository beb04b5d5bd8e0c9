package bigsize

import (
	"bytes"
	"slices"

	"tollhouse/api"
)

// Encode is the stream of the records l.
func Encode(l []api.Record) ([]byte, api.Errno) {
	if !rising(l) {
		return nil, api.ErrOrder
	}
	if len(l) > api.MaxRecords {
		return nil, api.ErrLong
	}
	size := streamSize(l)
	if size > api.MaxStream {
		return nil, api.ErrLong
	}
	out := make([]byte, 0, size)
	for _, r := range l {
		out = appendNumber(out, r.Type)
		out = appendNumber(out, uint64(len(r.Value)))
		out = append(out, r.Value...)
	}
	return out, api.OK
}

// Decode is the records of the stream b; known are the even Types that may stand in it.
func Decode(b []byte, known []uint64) ([]api.Record, api.Errno) {
	if len(b) > api.MaxStream {
		return nil, api.ErrLong
	}
	var l []api.Record
	fault := api.OK
	rest := b
records:
	for len(rest) > 0 {
		if len(l) == api.MaxRecords {
			fault = api.ErrLong
			break records
		}
		kind, size, e := Read(rest)
		switch {
		case e != api.OK:
			fault = e
			break records
		case len(l) > 0 && kind <= l[len(l)-1].Type:
			fault = api.ErrOrder
			break records
		}
		value, end, e := cutValue(rest[size:])
		switch {
		case e != api.OK:
			fault = e
			break records
		case kind%2 == 0 && !slices.Contains(known, kind):
			fault = api.ErrEven
			break records
		}
		l = append(l, api.Record{Type: kind, Value: bytes.Clone(value)})
		rest = rest[size+end:]
	}
	if fault != api.OK {
		return nil, fault
	}
	return l, api.OK
}

// Find is the Value of the first record of Type t.
func Find(l []api.Record, t uint64) ([]byte, bool) {
	for _, r := range l {
		if r.Type == t {
			return bytes.Clone(r.Value), true
		}
	}
	return nil, false
}

// rising tells whether each Type of l is above the one ahead.
func rising(l []api.Record) bool {
	for i := 1; i < len(l); i++ {
		if l[i].Type <= l[i-1].Type {
			return false
		}
	}
	return true
}

// streamSize is how many bytes the stream of l has.
func streamSize(l []api.Record) int {
	n := 0
	for _, r := range l {
		n += Size(r.Type) + Size(uint64(len(r.Value))) + len(r.Value)
	}
	return n
}

// cutValue is the Value whose length and bytes b begins with (a piece of b), and where it ends in b.
func cutValue(b []byte) ([]byte, int, api.Errno) {
	length, size, e := Read(b)
	if e != api.OK {
		return nil, 0, e
	}
	// Compared as uint64: a length may be beyond every int.
	if length > uint64(len(b)-size) {
		return nil, 0, api.ErrCode
	}
	end := size + int(length)
	return b[size:end], end, api.OK
}
