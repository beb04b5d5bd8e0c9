package kv

import (
	"bytes"
	"fmt"
	"math/rand"
	"reflect"
	"slices"
	"strings"
	"testing"

	"tollhouse/api"
)

// give and take are puts.
func give(key, value string) api.Put { return api.Put{Key: key, Value: []byte(value)} }
func take(key string) api.Put        { return api.Put{Key: key, Gone: true} }

// plainNumber is a number below 2^16 by the document's words, apart from the program.
func plainNumber(n int) string {
	if n < 0xFD {
		return string([]byte{byte(n)})
	}
	return string([]byte{0xFD, byte(n >> 8), byte(n)})
}

// plainBatch is a batch's bytes by the document's words.
func plainBatch(l ...api.Put) string {
	b := plainNumber(len(l))
	for _, p := range l {
		b += plainNumber(len(p.Key)) + p.Key
		if p.Gone {
			b += "\x01"
		} else {
			b += "\x00" + plainNumber(len(p.Value)) + string(p.Value)
		}
	}
	return b
}

// samePuts tells whether two lists are the same; nil and empty are.
func samePuts(a, b []api.Put) bool {
	return slices.EqualFunc(a, b, func(p, q api.Put) bool {
		return p.Key == q.Key && p.Gone == q.Gone && bytes.Equal(p.Value, q.Value)
	})
}

// encoded asks for a batch's bytes, and for its puts again.
func encoded(t *testing.T, name string, l []api.Put, want string) {
	t.Helper()
	b, e := Encode(l)
	if e != api.OK || string(b) != want {
		t.Errorf("%s: Encode = %d bytes, %d, want %d bytes", name, len(b), e, len(want))
	}
	got, e := Decode([]byte(want))
	if e != api.OK || !samePuts(got, l) {
		t.Errorf("%s: Decode = %d puts, %d", name, len(got), e)
	}
}

// refused asks for a list to be refused.
func refused(t *testing.T, name string, l []api.Put, want api.Errno) {
	t.Helper()
	if b, e := Encode(l); len(b) != 0 || e != want {
		t.Errorf("%s: Encode = %d bytes, %d, want %d", name, len(b), e, want)
	}
}

// noBatch asks for bytes to be refused.
func noBatch(t *testing.T, name, b string) {
	t.Helper()
	if l, e := Decode([]byte(b)); len(l) != 0 || e != api.ErrCode {
		t.Errorf("%s: Decode = %v, %d", name, l, e)
	}
}

// P12.1: batches and their bytes, written down by hand.
func TestBatchKnown(t *testing.T) {
	for _, c := range []struct {
		l []api.Put
		b string
	}{
		{nil, "\x00"},
		{[]api.Put{}, "\x00"},
		{[]api.Put{give("a", "1"), give("b", "2")}, "\x02\x01a\x00\x011\x01b\x00\x012"},
		{[]api.Put{take("a")}, "\x01\x01a\x01"},
		{[]api.Put{{Key: "a", Gone: true, Value: []byte{}}}, "\x01\x01a\x01"},
		{[]api.Put{{Key: "a"}}, "\x01\x01a\x00\x00"},
		{[]api.Put{give("a", "x"), take("a"), give("a", "y")}, "\x03\x01a\x00\x01x\x01a\x01\x01a\x00\x01y"},
		{[]api.Put{give("\x00", "\xFF")}, "\x01\x01\x00\x00\x01\xFF"},
		{[]api.Put{give("key", strings.Repeat("v", 252))}, "\x01\x03key\x00\xFC" + strings.Repeat("v", 252)},
		{[]api.Put{give("key", strings.Repeat("v", 253))}, "\x01\x03key\x00\xFD\x00\xFD" + strings.Repeat("v", 253)},
		{[]api.Put{give(strings.Repeat("k", 64), strings.Repeat("v", 4096))}, "\x01\x40" + strings.Repeat("k", 64) + "\x00\xFD\x10\x00" + strings.Repeat("v", 4096)},
	} {
		encoded(t, fmt.Sprint(len(c.b), " bytes"), c.l, c.b)
	}
}

// P12.1: puts that may not be are refused, whatever stands beside them, and ahead of what is too long.
func TestEncodeArguments(t *testing.T) {
	many := slices.Repeat([]api.Put{give("a", "")}, 65)
	long := slices.Repeat([]api.Put{give("a", strings.Repeat("v", 4096))}, 17)
	for _, wrong := range []api.Put{
		{},
		give("", "x"),
		take(""),
		give(strings.Repeat("k", 65), ""),
		take(strings.Repeat("k", 65)),
		give(strings.Repeat("k", 1000), "x"),
		give("a", strings.Repeat("v", 4097)),
		{Key: "a", Value: []byte("x"), Gone: true},
		{Key: "a", Value: []byte{0}, Gone: true},
	} {
		refused(t, "alone", []api.Put{wrong}, api.ErrArg)
		refused(t, "first", []api.Put{wrong, give("a", "")}, api.ErrArg)
		refused(t, "last", []api.Put{give("a", ""), wrong}, api.ErrArg)
		refused(t, "of many", append(slices.Clone(many), wrong), api.ErrArg)
		refused(t, "ahead of many", append([]api.Put{wrong}, many...), api.ErrArg)
		refused(t, "of long ones", append(slices.Clone(long), wrong), api.ErrArg)
	}
}

// full is a batch of so many puts and bytes, for greater ones; the last one fills up.
func full(puts, size int) []api.Put {
	l := slices.Repeat([]api.Put{give("k", "")}, puts-1)
	left := size - len(plainBatch(l...))
	for i := range l {
		n := min(4096, max(0, left-1000))
		l[i] = give("k", strings.Repeat("v", n))
		left = size - len(plainBatch(l...))
	}
	// A value of 253 bytes and more has a length of three bytes.
	return append(l, give("k", strings.Repeat("w", left-6)))
}

// P12.1: as many puts and bytes as there may be, and one more.
func TestEncodeLong(t *testing.T) {
	for _, puts := range []int{17, 20, 63, 64} {
		l := full(puts, 65536)
		if n := len(plainBatch(l...)); n != 65536 || len(l) != puts {
			t.Fatalf("%d puts, %d bytes", len(l), n)
		}
		encoded(t, "the longest", l, plainBatch(l...))
		refused(t, "one byte more", full(puts, 65537), api.ErrLong)
		noBatch(t, "one byte more", plainBatch(full(puts, 65537)...))
	}
	short := slices.Repeat([]api.Put{give("a", "")}, 64)
	encoded(t, "the most", short, plainBatch(short...))
	gone := slices.Repeat([]api.Put{take("a")}, 64)
	encoded(t, "the most, gone", gone, plainBatch(gone...))
	refused(t, "one more", append(short, take("b")), api.ErrLong)
	refused(t, "many more", slices.Repeat(short, 100), api.ErrLong)
	refused(t, "253", slices.Repeat(short, 4)[:253], api.ErrLong)
	refused(t, "much more", slices.Repeat([]api.Put{give("a", strings.Repeat("v", 4096))}, 64), api.ErrLong)
	noBatch(t, "one more", plainBatch(append(short, take("b"))...))
	noBatch(t, "253", plainBatch(slices.Repeat(short, 4)[:253]...))
}

// P12.1: bytes that are no batch's.
func TestDecodeWrong(t *testing.T) {
	for _, c := range []struct{ name, b string }{
		{"nothing", ""},
		{"fewer puts", "\x02\x01a\x01"},
		{"more puts", "\x00\x01a\x01"},
		{"something behind", "\x01\x01a\x01\x00"},
		{"something behind none", "\x00\x00"},
		{"no key", "\x01\x00\x00\x00"},
		{"no key, gone", "\x01\x00\x01"},
		{"a key that is too long", "\x01\x41" + strings.Repeat("k", 65) + "\x01"},
		{"a key above all", "\x01\xFF\xFF\xFF\xFF\xFF\xFF\xFF\xFF\xFFk\x01"},
		{"a value that is too long", "\x01\x01a\x00\xFD\x10\x01" + strings.Repeat("v", 4097)},
		{"a value above all", "\x01\x01a\x00\xFF\xFF\xFF\xFF\xFF\xFF\xFF\xFF\xFF"},
		{"another mark", "\x01\x01a\x02"},
		{"another mark and a value", "\x01\x01a\x02\x01x"},
		{"a mark of 255", "\x01\x01a\xFF\x01x"},
		{"gone with a value", "\x01\x01a\x01\x01x"},
		{"another form of how many", "\xFD\x00\x01\x01a\x01"},
		{"another form of a key's length", "\x01\xFD\x00\x01a\x01"},
		{"another form of a value's length", "\x01\x01a\x00\xFD\x00\x01x"},
		{"how many, above all", "\xFF\xFF\xFF\xFF\xFF\xFF\xFF\xFF\xFF"},
		{"65 and nothing", "\x41"},
	} {
		noBatch(t, c.name, c.b)
	}
	b := plainBatch(give("key", "value"), take("other"), give("k", strings.Repeat("v", 300)), give("e", ""))
	for n := range len(b) {
		noBatch(t, fmt.Sprint("the first ", n), b[:n])
	}
	for c := range 256 {
		noBatch(t, "a byte more", b+string([]byte{byte(c)}))
	}
}

// P12.1: whatever bytes there are, they are a batch's, and Encode makes them again, or they are none's.
func TestDecodeAnything(t *testing.T) {
	random := rand.New(rand.NewSource(12))
	right := 0
	for range 200000 {
		b := []byte(plainBatch(give("ab", "cd"), take("e"), give("f", "")))
		for range 1 + random.Intn(3) {
			switch i := random.Intn(len(b)); random.Intn(3) {
			case 0:
				b[i] = byte(random.Intn(5))
			case 1:
				b = slices.Delete(b, i, i+1)
			default:
				b = slices.Insert(b, i, byte(random.Intn(256)))
			}
		}
		l, e := Decode(b)
		if e == api.OK {
			right++
			if again, e := Encode(l); e != api.OK || !bytes.Equal(again, b) {
				t.Fatalf("Decode(%q) = %v, whose bytes are %q, %d", b, l, again, e)
			}
		} else if e != api.ErrCode || len(l) != 0 {
			t.Fatalf("Decode(%q) = %v, %d", b, l, e)
		}
	}
	if right < 1000 {
		t.Errorf("only %d were batches", right)
	}
}

// R2: what is not named has its zero value: a put that is gone has no value.
func TestDecodeFields(t *testing.T) {
	l, _ := Decode([]byte("\x02\x01a\x01\x01b\x00\x01x"))
	if want := []api.Put{{Key: "a", Gone: true}, {Key: "b", Value: []byte("x")}}; !reflect.DeepEqual(l, want) {
		t.Errorf("Decode = %#v", l)
	}
}

// R3: neither call changes or keeps what it is given, and values share nothing.
func TestBatchMemory(t *testing.T) {
	value := []byte("value and behind")
	l := []api.Put{{Key: "a", Value: value[:5]}, take("b"), give("behind", "x")}
	b, _ := Encode(l[:2])
	if string(value) != "value and behind" || l[2].Key != "behind" {
		t.Error("Encode changed what it was given")
	}
	value[0] = '!'
	if string(b) != plainBatch(give("a", "value"), take("b")) {
		t.Error("Encode shares memory")
	}
	in := []byte(plainBatch(give("k", "one"), give("k", "two")) + "behind")
	got, _ := Decode(in[:len(in)-6])
	if string(in) != plainBatch(give("k", "one"), give("k", "two"))+"behind" {
		t.Error("Decode changed what it was given")
	}
	clear(in)
	for _, p := range got {
		copy(p.Value[:cap(p.Value)], "!!!!!!!!")
	}
	if got[0].Key != "k" || got[1].Key != "k" || string(got[0].Value) != "!!!" || string(got[1].Value) != "!!!" || !bytes.Equal(in, make([]byte, len(in))) {
		t.Errorf("Decode shares memory: %v", got)
	}
}
