package log

import (
	"bytes"
	"crypto/sha3"
	"encoding/binary"
	"encoding/hex"
	"fmt"
	"math"
	"slices"
	"testing"
	"unsafe"

	"tollhouse/api"
)

// plainRecord is a record by the document's words, apart from the program.
func plainRecord(i int, payload string) string {
	sum := sha3.Sum256(append(binary.LittleEndian.AppendUint64([]byte("log"), uint64(i)), payload...))
	return string(binary.LittleEndian.AppendUint32(nil, uint32(len(payload)))) + string(sum[:8]) + payload
}

// plainLog is the bytes of a whole log.
func plainLog(payloads ...string) string {
	b := ""
	for i, payload := range payloads {
		b += plainRecord(i, payload)
	}
	return b
}

// texts is payloads as texts.
func texts(l [][]byte) []string {
	var out []string
	for _, b := range l {
		out = append(out, string(b))
	}
	return out
}

// scanned asks for what Scan answers, and for b to be as it was.
func scanned(t *testing.T, name, b string, payloads []string, size int) {
	t.Helper()
	in := []byte(b + "behind the end")
	got, n := Scan(in[:len(b)])
	if !slices.Equal(texts(got), payloads) || n != size {
		t.Errorf("%s: Scan = %d payloads, %d, want %d, %d", name, len(got), n, len(payloads), size)
	}
	if string(in) != b+"behind the end" {
		t.Errorf("%s: Scan changed what it was given", name)
	}
}

// P11.1: records whose bytes were worked out elsewhere.
func TestRecordKnown(t *testing.T) {
	long := make([]byte, 400)
	for i := range long {
		long[i] = byte(i % 200)
	}
	for _, c := range []struct {
		i       int
		payload []byte
		head    string
	}{
		{0, nil, "000000002e6616869f1ef4b5"},
		{0, []byte("one"), "03000000fff04e4b18adfc26"},
		{1, []byte("one"), "0300000014113d72f9bb16ec"},
		{258, []byte("two"), "03000000e494b20bd433bf08"},
		{math.MaxInt, []byte("x"), "0100000024684fe01f7aadc0"},
		{3, long, "90010000817acb8a1cb47008"},
		{5, bytes.Repeat([]byte{7}, 65536), "0000010047ab4efb70d45866"},
	} {
		b, e := Record(c.i, c.payload)
		if e != api.OK || len(b) != 12+len(c.payload) || hex.EncodeToString(b[:12]) != c.head || !bytes.Equal(b[12:], c.payload) {
			t.Errorf("Record(%d, %d bytes) = %d bytes, %d", c.i, len(c.payload), len(b), e)
		}
	}
}

// P11.1: the document's example, lengths up to the greatest, and what is refused.
func TestRecord(t *testing.T) {
	for _, empty := range [][]byte{nil, {}} {
		if b, e := Record(0, empty); len(b) != 12 || e != api.OK {
			t.Errorf("Record(0, nothing) = %d bytes, %d", len(b), e)
		}
	}
	for _, size := range []int{0, 1, 11, 12, 124, 125, 126, 255, 256, 4096, 65535, 65536} {
		payload := bytes.Repeat([]byte{byte(size), 3}, size)[:size]
		for _, i := range []int{0, 1, 255, 256, 1 << 20, 1<<40 + 7} {
			if b, e := Record(i, payload); e != api.OK || string(b) != plainRecord(i, string(payload)) {
				t.Errorf("Record(%d, %d bytes): %d", i, size, e)
			}
		}
	}
	for _, c := range []struct {
		i, size int
		e       api.Errno
	}{{0, 65537, api.ErrLong}, {7, 1 << 20, api.ErrLong}, {-1, 65537, api.ErrLong}, {-1, 65536, api.ErrArg}, {-1, 0, api.ErrArg}, {math.MinInt, 3, api.ErrArg}} {
		if b, e := Record(c.i, make([]byte, c.size)); len(b) != 0 || e != c.e {
			t.Errorf("Record(%d, %d bytes) = %d bytes, %d, want %d", c.i, c.size, len(b), e, c.e)
		}
	}
}

// R3: a record is new memory, and its payload is not changed.
func TestRecordMemory(t *testing.T) {
	in := []byte("payload and behind")
	b, _ := Record(0, in[:7])
	c, _ := Record(0, in[:7])
	for i := range b {
		b[i] ^= 0xFF
	}
	_ = append(b, "more"...)
	if string(in) != "payload and behind" || string(c) != plainRecord(0, "payload") {
		t.Error("a record shares memory")
	}
}

// P11.1: the whole part is all records up to the first bytes that are none in their place.
func TestScan(t *testing.T) {
	one, two := plainRecord(0, "one"), plainRecord(1, "twotwo")
	for _, c := range []struct {
		name, b  string
		payloads []string
		size     int
	}{
		{"nothing", "", nil, 0},
		{"one", one, []string{"one"}, 15},
		{"two", one + two, []string{"one", "twotwo"}, 33},
		{"empty ones", plainLog("", "", ""), []string{"", "", ""}, 36},
		{"one and more", one + "x", []string{"one"}, 15},
		{"one and a head of noughts", one + string(make([]byte, 12)), []string{"one"}, 15},
		{"noughts", string(make([]byte, 100)), nil, 0},
		{"not the first", two, nil, 0},
		{"the first again", one + one, []string{"one"}, 15},
		{"one that is left out", one + plainRecord(2, "x"), []string{"one"}, 15},
		{"not the first, then the first", two + one, nil, 0},
		{"behind a wrong one", one + "x" + two, []string{"one"}, 15},
		{"another digest", one + two[:4] + one[4:12] + two[12:], []string{"one"}, 15},
		{"a length above all", "\xFF\xFF\xFF\xFF" + one[4:], nil, 0},
		{"a length below nought, if it had a sign", one + "\xF4\xFF\xFF\xFF" + two[4:], []string{"one"}, 15},
	} {
		scanned(t, c.name, c.b, c.payloads, c.size)
	}
	if l, n := Scan(nil); len(l) != 0 || n != 0 {
		t.Errorf("Scan(nil) = %d payloads, %d", len(l), n)
	}
}

// P11.1: whatever is cut off, and whichever bit is wrong, what is ahead stays.
func TestScanTorn(t *testing.T) {
	payloads := []string{"one", "", "three and more", "4"}
	ends := []int{0, 15, 27, 53, 66}
	b := plainLog(payloads...)
	whole := func(n int) int {
		k := 0
		for k < len(payloads) && ends[k+1] <= n {
			k++
		}
		return k
	}
	for n := range len(b) + 1 {
		k := whole(n)
		scanned(t, fmt.Sprint("the first ", n), b[:n], slices.Clone(payloads[:k]), ends[k])
	}
	for i := range len(b) {
		for bit := range 8 {
			wrong := []byte(b)
			wrong[i] ^= 1 << bit
			k := whole(i)
			scanned(t, fmt.Sprint("a wrong bit in ", i), string(wrong), slices.Clone(payloads[:k]), ends[k])
		}
	}
}

// P11.1: a payload of the greatest length is one, a longer one is none, even if its digest is right.
func TestScanLong(t *testing.T) {
	long := string(bytes.Repeat([]byte("ab"), 32768))
	scanned(t, "the longest", plainLog("x", long, "y"), []string{"x", long, "y"}, 13+12+65536+13)
	scanned(t, "too long", plainLog("x", long+"c", "y"), []string{"x"}, 13)
	scanned(t, "too long, first", plainLog(long+long), nil, 0)
}

// R3: payloads share nothing with one another, nor with what was given.
func TestScanMemory(t *testing.T) {
	in := []byte(plainLog("one", "two", "three"))
	l, _ := Scan(in)
	clear(in)
	if !slices.Equal(texts(l), []string{"one", "two", "three"}) {
		t.Fatalf("payloads are pieces of what was given: %q", l)
	}
	for i := range l {
		whole := l[i][:cap(l[i])]
		for k := range whole {
			whole[k] = '!'
		}
	}
	for i, want := range []string{"!!!", "!!!", "!!!!!"} {
		if string(l[i]) != want {
			t.Errorf("payload %d is %q", i, l[i])
		}
	}
	if unsafe.SliceData(l[0]) == unsafe.SliceData(l[1]) {
		t.Error("payloads share memory")
	}
	if string(in) != string(make([]byte, len(in))) {
		t.Error("the room behind a payload is that of what was given")
	}
}
