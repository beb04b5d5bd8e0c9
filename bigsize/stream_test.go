package bigsize

import (
	"bytes"
	"math/rand"
	"slices"
	"testing"

	"tollhouse/api"
)

// number is a shorthand for tests that lay streams by hand.
func number(x uint64) []byte { return Put(nil, x) }

// record is the bytes of one record.
func record(kind uint64, value []byte) []byte {
	return slices.Concat(number(kind), number(uint64(len(value))), value)
}

// odd is n records of odd Types, without Values.
func odd(n int) []api.Record {
	l := make([]api.Record, n)
	for i := range l {
		l[i].Type = uint64(2*i + 1)
	}
	return l
}

func same(a, b []api.Record) bool {
	return slices.EqualFunc(a, b, func(x, y api.Record) bool {
		return x.Type == y.Type && bytes.Equal(x.Value, y.Value)
	})
}

// P1.2: what Encode writes.
func TestEncode(t *testing.T) {
	long := bytes.Repeat([]byte{7}, 253)
	for _, c := range []struct {
		l    []api.Record
		want []byte
	}{
		{nil, nil},
		{[]api.Record{}, nil},
		{[]api.Record{{Type: 1, Value: []byte("ab")}}, []byte{1, 2, 'a', 'b'}},
		{[]api.Record{{Type: 0}, {Type: 1}}, []byte{0, 0, 1, 0}},
		{[]api.Record{{Type: 252}, {Type: 253, Value: long}}, slices.Concat([]byte{252, 0, 0xFD, 0, 253, 0xFD, 0, 253}, long)},
		{[]api.Record{{Type: 1<<64 - 1, Value: []byte{9}}}, []byte{0xFF, 0xFF, 0xFF, 0xFF, 0xFF, 0xFF, 0xFF, 0xFF, 0xFF, 1, 9}},
	} {
		if got, e := Encode(c.l); e != api.OK || !bytes.Equal(got, c.want) {
			t.Errorf("Encode(%v) = % X, %d, want % X", c.l, got, e, c.want)
		}
	}
}

// P1.2: what Encode refuses, and that ErrOrder goes ahead of ErrLong.
func TestEncodeRefuses(t *testing.T) {
	big := make([]byte, api.MaxStream)
	for _, c := range []struct {
		name string
		l    []api.Record
		want api.Errno
	}{
		{"a Type twice", []api.Record{{Type: 1}, {Type: 1}}, api.ErrOrder},
		{"Types that fall", []api.Record{{Type: 1}, {Type: 3}, {Type: 2}}, api.ErrOrder},
		{"0 twice", []api.Record{{}, {}}, api.ErrOrder},
		{"65 records", odd(65), api.ErrLong},
		{"too many bytes", []api.Record{{Type: 1, Value: big}}, api.ErrLong},
		{"too many, and out of order at the end", append(odd(65), api.Record{Type: 1}), api.ErrOrder},
		{"too long, and out of order", []api.Record{{Type: 1, Value: big}, {Type: 1}}, api.ErrOrder},
	} {
		if got, e := Encode(c.l); e != c.want || len(got) != 0 {
			t.Errorf("%s: Encode = %d bytes, %d, want %d", c.name, len(got), e, c.want)
		}
	}
}

// P1.2: at the limits, streams are written and read; one beyond them, not.
func TestLimits(t *testing.T) {
	b, e := Encode(odd(api.MaxRecords))
	if e != api.OK {
		t.Fatal("Encode of 64 records", e)
	}
	if l, e := Decode(b, nil); e != api.OK || !same(l, odd(api.MaxRecords)) {
		t.Error("Decode of 64 records", len(l), e)
	}
	// One byte for the Type and three for the length of the only Value.
	most := api.MaxStream - 4
	for extra, want := range []api.Errno{api.OK, api.ErrLong} {
		l := []api.Record{{Type: 1, Value: make([]byte, most+extra)}}
		b, e := Encode(l)
		if e != want || e == api.OK && len(b) != api.MaxStream {
			t.Errorf("Encode with %d bytes beyond: %d bytes, %d", extra, len(b), e)
		}
	}
	whole := slices.Concat([]byte{1}, number(uint64(most)), make([]byte, most))
	if l, e := Decode(whole, nil); e != api.OK || len(l) != 1 || len(l[0].Value) != most {
		t.Error("Decode of 65536 bytes", len(l), e)
	}
	if l, e := Decode(append(whole, 0), nil); e != api.ErrLong || len(l) != 0 {
		t.Error("Decode of 65537 bytes", len(l), e)
	}
}

// P1.2: what Decode reads.
func TestDecode(t *testing.T) {
	for _, c := range []struct {
		b     []byte
		known []uint64
		want  []api.Record
	}{
		{nil, nil, nil},
		{[]byte{}, []uint64{2}, nil},
		{[]byte{1, 2, 'a', 'b'}, nil, []api.Record{{Type: 1, Value: []byte("ab")}}},
		{[]byte{1, 0, 0xFD, 1, 1, 1, 5}, nil, []api.Record{{Type: 1}, {Type: 257, Value: []byte{5}}}},
		{[]byte{0, 0}, []uint64{0}, []api.Record{{}}},
		{[]byte{0, 1, 9, 1, 0, 4, 0}, []uint64{4, 0, 4}, []api.Record{{Type: 0, Value: []byte{9}}, {Type: 1}, {Type: 4}}},
	} {
		if got, e := Decode(c.b, c.known); e != api.OK || !same(got, c.want) {
			t.Errorf("Decode(% X, %v) = %v, %d, want %v", c.b, c.known, got, e, c.want)
		}
	}
}

// P1.2: what Decode refuses, and that the first fault is told.
func TestDecodeRefuses(t *testing.T) {
	full, _ := Encode(odd(api.MaxRecords))
	for _, c := range []struct {
		name  string
		b     []byte
		known []uint64
		want  api.Errno
	}{
		{"a Type that ends too soon", []byte{0xFD, 1}, nil, api.ErrCode},
		{"a Type that is longer than it must be", []byte{0xFD, 0, 1, 0}, nil, api.ErrCode},
		{"no length", []byte{1}, nil, api.ErrCode},
		{"a length that ends too soon", []byte{1, 0xFE, 0}, nil, api.ErrCode},
		{"a length that is longer than it must be", []byte{1, 0xFD, 0, 1, 5}, nil, api.ErrCode},
		{"a Value that ends behind the stream", []byte{1, 2, 'a'}, nil, api.ErrCode},
		{"a length beyond every int", slices.Concat([]byte{1}, number(1<<64-1), make([]byte, 20)), nil, api.ErrCode},
		{"a length that wraps round", slices.Concat([]byte{1}, number(1<<63), make([]byte, 20)), nil, api.ErrCode},
		{"a Type twice", []byte{1, 0, 1, 0}, nil, api.ErrOrder},
		{"Types that fall", []byte{3, 0, 1, 0}, nil, api.ErrOrder},
		{"0 twice", []byte{0, 0, 0, 0}, []uint64{0}, api.ErrOrder},
		{"an even Type", []byte{2, 0}, nil, api.ErrEven},
		{"0, which is even", []byte{0, 0}, []uint64{2}, api.ErrEven},
		{"an even Type behind others", []byte{1, 0, 2, 0, 4, 0}, []uint64{2, 6}, api.ErrEven},

		{"the order is told where the Type ends: no length", []byte{3, 0, 1}, nil, api.ErrOrder},
		{"the order is told where the Type ends: a short Value", []byte{3, 0, 1, 9}, nil, api.ErrOrder},
		{"the order is told ahead of an even Type", []byte{3, 0, 2, 0}, nil, api.ErrOrder},
		{"an even Type is told where the Value ends: no length", []byte{2}, nil, api.ErrCode},
		{"an even Type is told where the Value ends: a short Value", []byte{2, 1}, nil, api.ErrCode},
		{"an even Type ahead of a bad order", []byte{2, 0, 1, 0}, nil, api.ErrEven},
		{"an even Type ahead of a short Type", []byte{2, 0, 0xFF}, nil, api.ErrEven},
		{"a bad order ahead of an even Type", []byte{3, 0, 1, 0, 4, 0}, nil, api.ErrOrder},

		{"65 records", append(bytes.Clone(full), record(1001, nil)...), nil, api.ErrLong},
		{"record 65 is no number", append(bytes.Clone(full), 0xFD), nil, api.ErrLong},
		{"record 65 is out of order", append(bytes.Clone(full), 1, 0), nil, api.ErrLong},
		{"record 65 is even", append(bytes.Clone(full), record(1000, nil)...), nil, api.ErrLong},
		{"record 64 is even, and there is another one", slices.Concat(full[:len(full)-2], record(200, nil), record(201, nil)), nil, api.ErrEven},
		{"too long, and all else is wrong too", bytes.Repeat([]byte{0xFF}, api.MaxStream+1), nil, api.ErrLong},
	} {
		if got, e := Decode(c.b, c.known); e != c.want || len(got) != 0 {
			t.Errorf("%s: Decode = %v, %d, want %d", c.name, got, e, c.want)
		}
	}
}

// P1.3: the first of several, none, and an empty Value that is there.
func TestFind(t *testing.T) {
	l := []api.Record{{Type: 5, Value: []byte("a")}, {Type: 3, Value: []byte("b")}, {Type: 5, Value: []byte("c")}, {Type: 0}}
	for _, c := range []struct {
		l    []api.Record
		t    uint64
		want string
		ok   bool
	}{
		{l, 5, "a", true},
		{l, 3, "b", true},
		{l, 0, "", true},
		{l, 4, "", false},
		{nil, 0, "", false},
	} {
		if got, ok := Find(c.l, c.t); string(got) != c.want || ok != c.ok {
			t.Errorf("Find(.., %d) = %q, %t", c.t, got, ok)
		}
	}
}

// R3: no answer shares memory with an argument, or with another list of the answer.
func TestStreamsShareNothing(t *testing.T) {
	b := []byte{1, 2, 'a', 'b', 3, 2, 'c', 'd'}
	l, _ := Decode(b, nil)
	first := l[0].Value[:cap(l[0].Value)]
	for i := range first {
		first[i] = '?'
	}
	if string(b) != "\x01\x02ab\x03\x02cd" || string(l[1].Value) != "cd" {
		t.Errorf("Decode shares: % X, %q", b, l[1].Value)
	}
	found, _ := Find(l, 3)
	found[0] = '?'
	if string(l[1].Value) != "cd" {
		t.Errorf("Find shares: %q", l[1].Value)
	}
	room := []byte("abXXXX")
	in := []api.Record{{Type: 1, Value: room[:2]}}
	out, _ := Encode(in)
	for i := range out {
		out[i] = '?'
	}
	if string(room) != "abXXXX" {
		t.Errorf("Encode shares: %q", room)
	}
}

// P1.4: what was encoded is decoded.
func TestEncodedIsDecoded(t *testing.T) {
	r := rand.New(rand.NewSource(1))
	for range 2000 {
		l, known := someRecords(r)
		b, e := Encode(l)
		if e != api.OK || len(b) != streamSize(l) {
			t.Fatal("Encode", l, e)
		}
		if got, e := Decode(b, known); e != api.OK || !same(got, l) {
			t.Fatalf("Decode(Encode(%v)) = %v, %d", l, got, e)
		}
	}
}

// someRecords is records whose Types rise by steps of all sizes, and those Types that are even.
func someRecords(r *rand.Rand) ([]api.Record, []uint64) {
	var l []api.Record
	var known []uint64
	kind := r.Uint64() >> r.Intn(64)
	for range r.Intn(api.MaxRecords + 1) {
		value := make([]byte, r.Intn(300))
		r.Read(value)
		l = append(l, api.Record{Type: kind, Value: value})
		if kind%2 == 0 {
			known = append(known, kind)
		}
		next := kind + 1 + r.Uint64()>>(1+r.Intn(63))
		if next <= kind {
			break
		}
		kind = next
	}
	return l, known
}

// P1.4: what is decoded is encoded as it was: all short streams of bytes that matter.
func TestDecodedIsEncoded(t *testing.T) {
	letters := []byte{0, 1, 2, 3, 0xFC, 0xFD, 0xFE, 0xFF}
	var try func(b []byte, left int)
	try = func(b []byte, left int) {
		if l, e := Decode(b, []uint64{0, 2, 0xFC, 0xFE}); e == api.OK {
			if again, e := Encode(l); e != api.OK || !bytes.Equal(again, b) {
				t.Fatalf("Encode(Decode(% X)) = % X, %d", b, again, e)
			}
		} else if len(l) != 0 {
			t.Fatalf("Decode(% X) = %v beside %d", b, l, e)
		}
		if left == 0 {
			return
		}
		for _, c := range letters {
			try(append(b[:len(b):len(b)], c), left-1)
		}
	}
	try(nil, 6)
}
