package wire

import (
	"bytes"
	"math/rand"
	"slices"
	"testing"

	"tollhouse/api"
)

// refused asks that Decode refuses b, and answers nothing beside.
func refused(t *testing.T, name string, b []byte) {
	t.Helper()
	if m, e := Decode(b); e != api.ErrCode || !same(m, api.Msg{}) {
		t.Errorf("%s: Decode(% X) = %v, %d, want ErrCode", name, b, m, e)
	}
}

// taken asks that Decode answers want.
func taken(t *testing.T, name string, b []byte, want api.Msg) {
	t.Helper()
	if m, e := Decode(b); e != api.OK || !same(m, want) {
		t.Errorf("%s: Decode(% X) = %v, %d, want %v", name, b, m, e, want)
	}
}

// P6.2, P6.3: the bytes of each kind, laid by hand, are its message.
func TestDecode(t *testing.T) {
	for _, m := range ordinary() {
		taken(t, "laid", message(m.Kind, laid(m.Kind)...), m)
	}
}

// P6.2: shorter than two bytes, or of no kind.
func TestDecodeKind(t *testing.T) {
	refused(t, "nil", nil)
	refused(t, "empty", []byte{})
	for x := range 256 {
		refused(t, "one byte", []byte{byte(x)})
	}
	for kind := range 1 << 16 {
		if kind >= 1 && kind <= 6 {
			continue
		}
		refused(t, "bare", message(kind))
		if kind < 10 || kind%256 < 8 {
			for like := 1; like <= 6; like++ {
				refused(t, "another kind's records", message(kind, laid(like)...))
			}
		}
	}
}

// P6.2: each beginning of a message is refused, and each record is missed.
func TestDecodeMissing(t *testing.T) {
	for kind := 1; kind <= 6; kind++ {
		records := laid(kind)
		whole := message(kind, records...)
		for n := range whole {
			if m, e := Decode(whole[:n]); e != api.ErrCode || !same(m, api.Msg{}) {
				t.Fatalf("the first %d bytes of the kind %d: %v, %d", n, kind, m, e)
			}
		}
		for i := range records {
			refused(t, "a record is missing", message(kind, slices.Delete(slices.Clone(records), i, i+1)...))
		}
	}
}

// P6.2: records of odd types are passed over, wherever they stand, if the kind does not have them; whatever is in them.
func TestDecodePassesOver(t *testing.T) {
	values := [][]byte{nil, {0}, {1}, make([]byte, 9), make([]byte, 32), bytes.Repeat([]byte{255}, 8), make([]byte, 300)}
	for _, m := range ordinary() {
		for odd := byte(1); odd < 250; odd += 2 {
			records := laid(m.Kind)
			at, has := slices.BinarySearchFunc(records, odd, func(r []byte, x byte) int { return int(r[0]) - int(x) })
			if has {
				continue
			}
			for _, value := range values {
				taken(t, "an odd record", message(m.Kind, slices.Insert(slices.Clone(records), at, record(odd, value...))...), m)
			}
		}
		taken(t, "a long type", message(m.Kind, append(laid(m.Kind), []byte{0xFE, 1, 0, 0, 1, 2, 0, 0})...), m)
		taken(t, "the last type", message(m.Kind, append(laid(m.Kind), append(bytes.Repeat([]byte{255}, 9), 0))...), m)
	}
}

// P6.2: the stream is refused: an even type, types that do not rise, numbers that are too long, values that end behind it, too much.
func TestDecodeStream(t *testing.T) {
	for kind := 1; kind <= 6; kind++ {
		records := laid(kind)
		for even := byte(0); even < 250; even += 2 {
			at, _ := slices.BinarySearchFunc(records, even, func(r []byte, x byte) int { return int(r[0]) - int(x) })
			refused(t, "an even record", message(kind, slices.Insert(slices.Clone(records), at, record(even))...))
		}
		for i := range records {
			refused(t, "a record twice", message(kind, slices.Insert(slices.Clone(records), i, records[i])...))
			if i > 0 {
				turned := slices.Clone(records)
				turned[i-1], turned[i] = turned[i], turned[i-1]
				refused(t, "out of order", message(kind, turned...))
			}
		}
		whole := message(kind, records...)
		for _, rest := range [][]byte{{101}, {101, 1}, {101, 0xFD, 0, 0}, {0xFD, 0, 101, 0}, {101, 0, 101, 0}, {101, 0, 99, 0}, {1, 0}, {0}, {0xFD}, {101, 0xFF, 255, 255, 255, 255, 255, 255, 255, 255}} {
			refused(t, "something behind", slices.Concat(whole, rest))
		}
	}
}

// P6.2: as many records and bytes as a stream may have are taken, one more is not.
func TestDecodeLimits(t *testing.T) {
	want := api.Msg{Kind: api.MsgFail, Channel: 258, Id: 3, Reason: []byte("no way")}
	records := laid(3)
	for len(records) < api.MaxRecords {
		records = append(records, record(byte(31+2*len(records))))
	}
	taken(t, "64 records", message(3, records...), want)
	refused(t, "65 records", message(3, append(records, record(251))...))

	whole := message(3, laid(3)...)
	// What is left of a stream, less the record's type and its length in three bytes.
	left := api.MaxStream - (len(whole) - 2) - 4
	taken(t, "65536 bytes", slices.Concat(whole, record(101, make([]byte, left)...)), want)
	refused(t, "65537 bytes", slices.Concat(whole, record(101, make([]byte, left+1)...)))
}

// P6.2: numbers that are too long, begin with a byte 0, or are beyond their field's limits.
func TestDecodeNumbers(t *testing.T) {
	most31, most63 := []byte{0x7F, 255, 255, 255}, []byte{0x7F, 255, 255, 255, 255, 255, 255, 255}
	bad := [][]byte{{0}, {0, 0}, {0, 1}, {0, 255, 255}, make([]byte, 8), make([]byte, 9), {0, 1, 2, 3, 4, 5, 6, 7}, {0, 1, 2, 3, 4, 5, 6, 7, 8},
		{1, 2, 3, 4, 5, 6, 7, 8, 9}, {1, 0, 0, 0, 0, 0, 0, 0, 5}, {255, 255, 255, 255, 255, 255, 255, 255}, {128, 0, 0, 0, 0, 0, 0, 0},
		{128, 0, 0, 0, 0, 0, 0, 5}, bytes.Repeat([]byte{1}, 32), bytes.Repeat([]byte{1}, 300)}
	for _, c := range []struct {
		kind, at int
		field    byte
		good     [][]byte
		over     [][]byte
	}{
		{1, 0, 1, [][]byte{{1}, {255, 255}}, [][]byte{nil, {1, 0, 0}, {1, 0, 0, 0, 1}}},
		{1, 1, 3, [][]byte{nil, {1}, most31}, [][]byte{{128, 0, 0, 0}, {1, 0, 0, 0, 0}, most63}},
		{1, 2, 5, [][]byte{nil, {1}, {128, 0, 0, 0}, most63}, nil},
		{1, 3, 7, [][]byte{nil, {1}, most31}, [][]byte{{128, 0, 0, 0}, {1, 0, 0, 0, 0}, most63}},
		{6, 2, 19, [][]byte{nil, {1}, most31}, [][]byte{{128, 0, 0, 0}, {1, 0, 0, 0, 0}, most63}},
		{6, 3, 21, [][]byte{nil, {1}, most31}, [][]byte{{128, 0, 0, 0}, {1, 0, 0, 0, 0}, most63}},
	} {
		with := func(value []byte) []byte {
			records := laid(c.kind)
			records[c.at] = record(c.field, value...)
			return message(c.kind, records...)
		}
		for _, value := range c.good {
			if _, e := Decode(with(value)); e != api.OK {
				t.Errorf("the field %d as % X: %d", c.field, value, e)
			}
		}
		for _, value := range slices.Concat(bad, c.over) {
			refused(t, "a number", with(value))
		}
	}
}

// P6.2: other fields of another length.
func TestDecodeLengths(t *testing.T) {
	for _, m := range ordinary() {
		for i, r := range laid(m.Kind) {
			may := func(n int) bool { return n == 32 }
			switch r[0] {
			case 11:
				may = func(n int) bool { return n == 2112 }
			case 23:
				may = func(n int) bool { return n <= 256 }
			case 1, 3, 5, 7, 19, 21:
				continue
			}
			for _, n := range []int{0, 1, 31, 32, 33, 64, 255, 256, 257, 288, 2111, 2112, 2113, 4224} {
				records := laid(m.Kind)
				records[i] = record(r[0], bytes.Repeat([]byte{9}, n)...)
				b := message(m.Kind, records...)
				if !may(n) {
					refused(t, "another length", b)
				} else if _, e := Decode(b); e != api.OK {
					t.Errorf("the field %d of %d bytes: %d", r[0], n, e)
				}
			}
		}
	}
}

// anyMessage is one that may be, its numbers of all sizes.
func anyMessage(random *rand.Rand) api.Msg {
	number := func(bits int) int { return int(random.Uint64() >> (64 - bits) >> random.Intn(bits)) }
	m := api.Msg{Kind: 1 + random.Intn(6), Channel: 1 + random.Intn(api.MaxChannel), Id: number(31), Amount: number(63), Expiry: number(31), Number: number(31), Told: number(31)}
	for _, x := range []*[32]byte{&m.Hash, &m.Secret, &m.Point, &m.Tag} {
		random.Read(x[:])
	}
	m.Onion, m.Reason = make([]byte, api.OnionSize), make([]byte, random.Intn(api.MaxReason+1))
	random.Read(m.Onion)
	random.Read(m.Reason)
	return Bare(m)
}

// P6.3: what was encoded is decoded; and whatever is decoded may be, and is encoded and decoded as it is.
func TestThereAndBack(t *testing.T) {
	random := rand.New(rand.NewSource(6))
	for range 3000 {
		m := anyMessage(random)
		b, e := Encode(m)
		if e != api.OK {
			t.Fatalf("Encode(%v): %d", m, e)
		}
		taken(t, "there and back", b, m)
		for range 10 {
			b[random.Intn(min(len(b), 80))] ^= 1 << random.Intn(8)
			x, e := Decode(b)
			if e != api.OK {
				if e != api.ErrCode || !same(x, api.Msg{}) {
					t.Fatalf("Decode(% X) = %v, %d", b, x, e)
				}
				continue
			}
			again, e := Encode(x)
			if !May(x) || e != api.OK {
				t.Fatalf("Decode(% X) may not be", b)
			}
			taken(t, "changed, there and back", again, x)
		}
	}
}
