package keccak

import (
	"bytes"
	"crypto/sha3"
	"encoding/hex"
	"testing"
)

// numbered is n bytes, no two neighbours alike.
func numbered(n int) []byte {
	b := make([]byte, n)
	for i := range b {
		b[i] = byte(i*7 + i>>8 + 1)
	}
	return b
}

// cuts are ways to cut b in parts: whole, in single bytes, in pieces that do not fit the rates, with empty parts between.
func cuts(b []byte) [][][]byte {
	single := [][]byte{}
	pieces := [][]byte{nil}
	for i := range b {
		single = append(single, b[i:i+1])
	}
	for i := 0; i < len(b); i += 37 {
		pieces = append(pieces, b[i:min(i+37, len(b))], []byte{})
	}
	half := len(b) / 2
	return [][][]byte{{b}, single, pieces, {b[:half], b[half:]}, {nil, b, nil}}
}

// P3.1: digests that are known, of nothing and of no part too.
func TestSumKnown(t *testing.T) {
	none := "a7ffc6f8bf1ed76651c14756a061d662f580ff4de43b49fa82d80a4b80f8434a"
	abc := "3a985da74fe225b2045c172d6bd390bd855f086e3e9d525b46bfe24511431532"
	for _, c := range []struct {
		parts [][]byte
		want  string
	}{
		{nil, none},
		{[][]byte{nil}, none},
		{[][]byte{{}, nil, {}}, none},
		{[][]byte{[]byte("abc")}, abc},
		{[][]byte{[]byte("a"), []byte("bc")}, abc},
		{[][]byte{bytes.Repeat([]byte{0xA3}, 200)}, "79f38adec5c20307a98ef76e8324afbfd46cfd81b22e3973c65fa1bd9de31787"},
	} {
		got := Sum(c.parts...)
		if hex.EncodeToString(got[:]) != c.want {
			t.Errorf("Sum(%q) = %x, want %s", c.parts, got, c.want)
		}
	}
}

// P3.1: streams that are known.
func TestStreamKnown(t *testing.T) {
	for _, c := range []struct {
		in, want string
	}{
		{"", "7f9c2ba4e88f827d616045507605853ed73b8093f6efbc88eb1a6eacfa66ef26"},
		{"abc", "5881092dd818bf5cf8a3ddb793fbcba74097d5c526a6d35f97b83351940f2cc8"},
	} {
		if got := Stream(32, []byte(c.in)); hex.EncodeToString(got) != c.want {
			t.Errorf("Stream(32, %q) = %x, want %s", c.in, got, c.want)
		}
	}
}

// P3.1, P3.3: digests and streams at all lengths around one, two and three pieces, however they are cut in parts.
func TestAllLengths(t *testing.T) {
	for n := range 3*streamRate + 2 {
		b := numbered(n)
		digest := sha3.Sum256(b)
		stream := sha3.SumSHAKE128(b, 400)
		for i, parts := range cuts(b) {
			if Sum(parts...) != digest {
				t.Errorf("Sum of %d bytes, cut in way %d", n, i)
			}
			if !bytes.Equal(Stream(400, parts...), stream) {
				t.Errorf("Stream of %d bytes, cut in way %d", n, i)
			}
		}
	}
}

// P3.3: a shorter stream is the beginning of a longer one, at the rate's edges too.
func TestStreamBegins(t *testing.T) {
	b := numbered(300)
	long := sha3.SumSHAKE128(b, 65536)
	lengths := []int{1, 2, 31, 32, 33, 1000, 4096, 65535, 65536}
	for n := 1; n <= 3; n++ {
		lengths = append(lengths, n*streamRate-1, n*streamRate, n*streamRate+1, n*digestRate)
	}
	for _, n := range lengths {
		got := Stream(n, b)
		if len(got) != n || !bytes.Equal(got, long[:n]) {
			t.Errorf("Stream(%d) is no beginning", n)
		}
	}
}

// P3.1: of lengths that may not be there is nothing.
func TestStreamOfNone(t *testing.T) {
	for _, n := range []int{0, -1, -1 << 63, 65537, 1<<63 - 1} {
		if got := Stream(n, []byte("abc")); len(got) != 0 {
			t.Errorf("Stream(%d) has %d bytes", n, len(got))
		}
	}
}

// R3: parts are not changed, nor the room behind them; answers are new memory.
func TestMemory(t *testing.T) {
	room := numbered(400)
	before := bytes.Clone(room)
	Sum(room[:200], room[200:201])
	first := Stream(200, room[:200], room[200:201])
	if !bytes.Equal(room, before) {
		t.Error("a part was changed")
	}
	second := Stream(200, room[:200], room[200:201])
	for i := range first {
		first[i] = 0
	}
	if !bytes.Equal(second, sha3.SumSHAKE128(before[:201], 200)) {
		t.Error("two streams share memory")
	}
}
