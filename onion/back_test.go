package onion

import (
	"bytes"
	"crypto/sha3"
	"encoding/hex"
	"math/rand"
	"slices"
	"testing"

	"tollhouse/api"
)

// P7.3: digests of errors that came back, worked out apart from this program.
func TestFailKnown(t *testing.T) {
	for n, want := range map[int]string{
		1: "67b9799b36b0e8839064c2ec6889efdd32c63a3c11b4a9ef9e5635b10a2e6f4a",
		2: "832abb2fa7a631be439e8fa6ea8438bfce0fb7be0c34820b91ec4fe7058567be",
		8: "c86883b7bb7c068e19da203d5f52f55df81232f8394d41363e01c612d165cb26",
	} {
		keys, _ := fixedWay(n)
		own := Keys(keys, stepped(100))
		digest := sha3.Sum256(back(t, own, n-1, []byte("no\x00way")))
		if got := hex.EncodeToString(digest[:]); got != want {
			t.Errorf("an error of %d nodes: %s", n, got)
		}
	}
}

// back is an error that arose at own[i], wrapped on its way back to own[0].
func back(t *testing.T, own [][32]byte, i int, reason []byte) []byte {
	t.Helper()
	b, e := Fail(own[i], reason)
	for i--; i >= 0; i-- {
		if e != api.OK || len(b) != 96 {
			t.Fatalf("an error of %d bytes, %d", len(b), e)
		}
		b, e = Wrap(own[i], b)
	}
	if e != api.OK || len(b) != 96 {
		t.Fatalf("an error of %d bytes, %d", len(b), e)
	}
	return b
}

// reasons are some that may be.
func reasons() [][]byte {
	return [][]byte{
		nil, {}, {1}, {0, 1}, {255}, []byte("no way"), {1, 0, 0, 2}, append(make([]byte, 63), 1),
		bytes.Repeat([]byte{9}, 63), bytes.Repeat([]byte{9}, 64), bytes.Repeat([]byte{255}, 64), append(make([]byte, 62), 200),
	}
}

// P7.3, P7.5: an error of any node of a way is the document's bytes, and is found to be of that node, with its reason.
func TestBack(t *testing.T) {
	r := rand.New(rand.NewSource(3))
	for n := 1; n <= 9; n++ {
		keys, _ := randomWay(r, n)
		_, own := plainKeys(keys, random32(r))
		for i := range n {
			for _, reason := range reasons() {
				b := back(t, own, i, reason)
				if !bytes.Equal(b, plainFail(own, i, reason)) {
					t.Fatalf("an error of the node %d of %d is another one", i, n)
				}
				if place, got, e := Unwrap(own, b); place != i || !bytes.Equal(got, reason) || e != api.OK {
					t.Fatalf("Unwrap of an error of %d of %d: %d, %x, %d", i, n, place, got, e)
				}
				// The keys behind that node do not matter; without its own it is not found.
				if place, got, e := Unwrap(own[:i+1], b); place != i || !bytes.Equal(got, reason) || e != api.OK {
					t.Fatalf("Unwrap of an error of the last of %d: %d, %x, %d", i+1, place, got, e)
				}
				if !notFound(own[:i], b) {
					t.Fatalf("Unwrap of an error of %d by %d keys", i, i)
				}
			}
		}
	}
}

// notFound tells whether Unwrap answers ErrNone, and nothing else.
func notFound(keys [][32]byte, b []byte) bool {
	place, reason, e := Unwrap(keys, b)
	return place == 0 && len(reason) == 0 && e == api.ErrNone
}

// P7.3: Fail refuses reasons that are too long, or end with a zero.
func TestFailRefuses(t *testing.T) {
	for _, reason := range [][]byte{
		{0}, {0, 0}, {1, 0}, make([]byte, 64), append(bytes.Repeat([]byte{1}, 63), 0),
		bytes.Repeat([]byte{1}, 65), make([]byte, 65), append(make([]byte, 64), 1), bytes.Repeat([]byte{1}, 96), make([]byte, 5000),
	} {
		if b, e := Fail([32]byte{1}, reason); e != api.ErrArg || len(b) != 0 {
			t.Errorf("Fail with %x: %d", reason, e)
		}
	}
	for n := 1; n <= 64; n++ {
		reason := bytes.Repeat([]byte{byte(n)}, n)
		if b, e := Fail([32]byte{1}, reason); e != api.OK || !bytes.Equal(b, plainFail([][32]byte{{1}}, 0, reason)) {
			t.Errorf("Fail with %d bytes: %d", n, e)
		}
	}
}

// P7.3: Wrap masks any 96 bytes, and no others; Unwrap likewise, even with no keys.
func TestBackLengths(t *testing.T) {
	r := rand.New(rand.NewSource(4))
	for _, n := range []int{0, 1, 32, 64, 95, 97, 128, 192, 2112, 70000} {
		b := make([]byte, n)
		r.Read(b)
		if got, e := Wrap([32]byte{1}, b); e != api.ErrCode || len(got) != 0 {
			t.Errorf("Wrap of %d bytes: %d", n, e)
		}
		for _, keys := range [][][32]byte{nil, {{1}}, {{1}, {2}}} {
			if place, reason, e := Unwrap(keys, b); e != api.ErrCode || place != 0 || len(reason) != 0 {
				t.Errorf("Unwrap of %d bytes: %d", n, e)
			}
		}
	}
	for range 20 {
		b, key := make([]byte, 96), random32(r)
		r.Read(b)
		if got, e := Wrap(key, b); e != api.OK || !bytes.Equal(got, sum(b, plainMask(key, "back", 96))) {
			t.Errorf("Wrap of %x: %d", b, e)
		}
	}
}

// P7.3: errors that are of nobody.
func TestUnwrapNone(t *testing.T) {
	keys, _ := fixedWay(4)
	own := Keys(keys, [32]byte{1})
	b := back(t, own, 2, []byte("no way"))
	for bit := range 96 * 8 {
		turned := slices.Clone(b)
		turned[bit/8] ^= 1 << (bit % 8)
		if !notFound(own, turned) {
			t.Fatalf("Unwrap with the bit %d turned", bit)
		}
	}
	if !notFound(nil, b) || !notFound(own, make([]byte, 96)) || !notFound(keys, b) || !notFound([][32]byte{own[1], own[0]}, b) {
		t.Error("Unwrap by other keys")
	}
	// An error that missed the mask of one node on its way.
	miss, _ := Fail(own[2], []byte("no way"))
	if miss, _ = Wrap(own[0], miss); !notFound(own, miss) {
		t.Error("Unwrap of an error that was not wrapped")
	}
}

// P7.3: the first place at which the tag is right. Under the same mask three times it is as under it once.
func TestUnwrapFirst(t *testing.T) {
	k, other := [32]byte{1}, [32]byte{2}
	for _, c := range []struct {
		own     [][32]byte
		at, got int
	}{
		{[][32]byte{k, k, k}, 2, 0},
		{[][32]byte{k, k, k}, 1, 1},
		{[][32]byte{k, k, k, k}, 3, 1},
		{[][32]byte{other, k, k, k, other}, 3, 1},
		{[][32]byte{other, k, other, k}, 3, 3},
	} {
		b := back(t, c.own, c.at, []byte("x"))
		if place, reason, e := Unwrap(c.own, b); place != c.got || string(reason) != "x" || e != api.OK {
			t.Errorf("Unwrap: %d, %x, %d, want %d", place, reason, e, c.got)
		}
	}
}

// R3: arguments stay as they are, with what is behind their ends; answers are new.
func TestBackMemory(t *testing.T) {
	keys, _ := fixedWay(3)
	keysThen := slices.Clone(keys)
	room := bytes.Repeat([]byte{7}, 200)
	b, _ := Fail(keys[2], room[:5])
	if !bytes.Equal(room, bytes.Repeat([]byte{7}, 200)) {
		t.Error("Fail changed its reason")
	}
	copy(room, b)
	then := slices.Clone(room)
	w, _ := Wrap(keys[1], room[:96])
	if !bytes.Equal(room, then) || &w[0] == &room[0] {
		t.Error("Wrap changed its argument, or answers it")
	}
	w, _ = Wrap(keys[0], w)
	then = slices.Clone(w)
	_, reason, e := Unwrap(keys, w)
	if !bytes.Equal(w, then) || !slices.Equal(keys, keysThen) || e != api.OK {
		t.Error("Unwrap changed its arguments")
	}
	clear(w)
	if !bytes.Equal(reason, []byte{7, 7, 7, 7, 7}) {
		t.Error("Unwrap's reason is in its argument's memory")
	}
}
