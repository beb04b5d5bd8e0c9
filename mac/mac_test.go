package mac

import (
	"bytes"
	"crypto/sha3"
	"encoding/binary"
	"strings"
	"testing"
)

func testKey() [32]byte {
	var k [32]byte
	for i := range k {
		k[i] = byte(i*5 + 3)
	}
	return k
}

// begin is what tags and masks begin with, written down from the document.
func begin(key [32]byte, label string) []byte {
	b := []byte{byte(len(label))}
	b = append(b, label...)
	return append(b, key[:]...)
}

// plainTag is a tag, written down from the document.
func plainTag(key [32]byte, label string, parts ...[]byte) [32]byte {
	b := begin(key, label)
	for _, part := range parts {
		b = binary.LittleEndian.AppendUint64(b, uint64(len(part)))
		b = append(b, part...)
	}
	return sha3.Sum256(b)
}

func labels() []string {
	return []string{"", "x", "toll", "\xff\x00", strings.Repeat("l", 63), strings.Repeat("l", 64)}
}

func longLabels() []string {
	// The one of 33 runes has 66 bytes: bytes are counted. The lengths of the last two end in the byte 0 and the byte 1.
	return []string{strings.Repeat("l", 65), strings.Repeat("é", 33), strings.Repeat("l", 256), strings.Repeat("l", 257)}
}

// P4.1: tags of any number of parts, under labels up to the longest.
func TestTag(t *testing.T) {
	long := bytes.Repeat([]byte("toll"), 100)
	for _, label := range labels() {
		for i, parts := range [][][]byte{
			nil, {}, {nil}, {{}}, {{}, {}}, {{0}}, {[]byte("bc")}, {[]byte("b"), []byte("c")}, {long}, {long, nil, long[:255], long[:257]},
		} {
			for _, key := range [][32]byte{{}, {5}, testKey()} {
				if got, want := Tag(key, label, parts...), plainTag(key, label, parts...); got != want {
					t.Errorf("Tag(%x, %q, parts %d) = %x, want %x", key, label, i, got, want)
				}
			}
		}
	}
}

// P4.1: a label that is too long has zeros for a tag.
func TestLongLabel(t *testing.T) {
	for _, label := range longLabels() {
		if Tag(testKey(), label) != [32]byte{} || Tag(testKey(), label, []byte("a")) != [32]byte{} {
			t.Errorf("Tag with a label of %d bytes", len(label))
		}
		if Derive(testKey(), label, 1) != [32]byte{} {
			t.Errorf("Derive with a label of %d bytes", len(label))
		}
	}
}

// P4.3: what is in parts, in how many, key and label are part of the tag.
func TestTagsDiffer(t *testing.T) {
	key := testKey()
	a, b, ab := []byte("a"), []byte("b"), []byte("ab")
	seen := map[[32]byte]int{}
	for i, tag := range [][32]byte{
		Tag(key, "l"), Tag(key, "l", nil), Tag(key, "l", nil, nil), Tag(key, "l", ab), Tag(key, "l", a, b), Tag(key, "l", b, a),
		Tag(key, "l", nil, ab), Tag(key, "l", ab, nil), Tag(key, "l", a, nil, b), Tag(key, "l", Bytes(1), a), Tag(key, "l", []byte("aa")),
		Tag(key, "", ab), Tag(key, "L", ab), Tag(key, "ll", ab), Tag([32]byte{}, "l", ab), Tag([32]byte{31: 1}, "l", ab),
		Derive(key, "l", 0), Derive(key, "l", 1), Derive(key, "l", 1<<63),
	} {
		if j, ok := seen[tag]; ok {
			t.Errorf("tags %d and %d are the same", j, i)
		}
		seen[tag] = i
	}
}

// P4.1: Derive and Bytes at a number's edges.
func TestDeriveBytes(t *testing.T) {
	for _, n := range []uint64{0, 1, 7, 255, 256, 1 << 16, 1<<32 - 1, 1 << 32, 0x0102030405060708, 1 << 63, 1<<64 - 1} {
		want := binary.LittleEndian.AppendUint64(nil, n)
		if got := Bytes(n); !bytes.Equal(got, want) {
			t.Errorf("Bytes(%d) = %x, want %x", n, got, want)
		}
		for _, label := range labels() {
			if Derive(testKey(), label, n) != plainTag(testKey(), label, want) {
				t.Errorf("Derive(.., %q, %d)", label, n)
			}
		}
	}
	if !bytes.Equal(Bytes(0x0102030405060708), []byte{8, 7, 6, 5, 4, 3, 2, 1}) {
		t.Error("the lowest byte is not the first")
	}
}

// P4.2, P4.3: masks of all kinds of lengths; what is masked twice is as it was.
func TestMask(t *testing.T) {
	for _, n := range []int{0, 1, 2, 31, 32, 33, 167, 168, 169, 400, 65535, 65536} {
		b := bytes.Repeat([]byte("tollhouse"), n/9+1)[:n]
		for _, label := range labels() {
			mask := sha3.SumSHAKE128(begin(testKey(), label), n)
			got := Mask(testKey(), label, b)
			if len(got) != n {
				t.Fatalf("Mask of %d bytes has %d", n, len(got))
			}
			for i := range got {
				if got[i] != b[i]^mask[i] {
					t.Fatalf("Mask(.., %q, %d bytes): byte %d", label, n, i)
				}
			}
			if !bytes.Equal(Mask(testKey(), label, got), b) {
				t.Errorf("Mask(.., %q, %d bytes), twice", label, n)
			}
		}
	}
}

// P4.2: there is no mask for a label that is too long, nor for too many bytes.
func TestNoMask(t *testing.T) {
	for _, label := range longLabels() {
		if got := Mask(testKey(), label, []byte("abc")); len(got) != 0 {
			t.Errorf("Mask with a label of %d bytes has %d bytes", len(label), len(got))
		}
	}
	for _, n := range []int{65537, 1 << 17} {
		if got := Mask(testKey(), "l", make([]byte, n)); len(got) != 0 {
			t.Errorf("Mask of %d bytes has %d", n, len(got))
		}
	}
	if got := Mask(testKey(), "l", nil); len(got) != 0 {
		t.Errorf("Mask of nothing has %d bytes", len(got))
	}
}

// P4.2: Equal, with a difference at each place, with lengths that differ, with zeros behind the end of one.
func TestEqual(t *testing.T) {
	base := bytes.Repeat([]byte("toll"), 10)
	for i := range base {
		for bit := range 8 {
			other := bytes.Clone(base)
			other[i] ^= 1 << bit
			if Equal(base, other) || Equal(other, base) {
				t.Errorf("Equal with bit %d of byte %d other", bit, i)
			}
		}
		if Equal(base, base[:i]) || Equal(base[:i], base) {
			t.Errorf("Equal with %d and %d bytes", len(base), i)
		}
		if !Equal(base[:i], bytes.Clone(base[:i])) {
			t.Errorf("not Equal, %d bytes", i)
		}
	}
	for _, c := range []struct {
		a, b []byte
		want bool
	}{
		{nil, nil, true}, {nil, []byte{}, true}, {[]byte{}, nil, true}, {[]byte{0}, []byte{0}, true},
		{nil, []byte{0}, false}, {[]byte{0}, nil, false}, {[]byte{1}, []byte{1, 0}, false}, {make([]byte, 256), nil, false},
		{make([]byte, 256), make([]byte, 512), false}, {[]byte{0, 0}, []byte{0}, false}, {[]byte{1, 2}, []byte{2, 1}, false},
	} {
		if Equal(c.a, c.b) != c.want {
			t.Errorf("Equal(%x, %x) is not %v", c.a, c.b, c.want)
		}
	}
}

// P4.2: Hash.
func TestHash(t *testing.T) {
	for _, secret := range [][32]byte{{}, {1}, {31: 1}, testKey()} {
		if Hash(secret) != sha3.Sum256(secret[:]) {
			t.Errorf("Hash(%x)", secret)
		}
	}
}

// R3: what is handed in is not changed, nor the room behind it; answers are new memory.
func TestMemory(t *testing.T) {
	room := bytes.Repeat([]byte("toll"), 10)
	before := bytes.Clone(room)
	parts := [][]byte{room[:3], room[3:9], room[20:]}
	Tag(testKey(), "l", parts[:1]...)
	Equal(room[:5], room[5:10])
	first := Mask(testKey(), "l", room[:20])
	second := Mask(testKey(), "l", room[:20])
	if !bytes.Equal(room, before) || !bytes.Equal(parts[1], before[3:9]) || !bytes.Equal(parts[2], before[20:]) {
		t.Error("an argument was changed")
	}
	clear(first[:cap(first)])
	if !bytes.Equal(room, before) || !bytes.Equal(Mask(testKey(), "l", second), before[:20]) {
		t.Error("an answer is shared")
	}
	number := Bytes(7)
	clear(number[:cap(number)])
	if !bytes.Equal(Bytes(7), []byte{7, 0, 0, 0, 0, 0, 0, 0}) {
		t.Error("Bytes shares its answers")
	}
}
