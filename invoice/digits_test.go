package invoice

import (
	"bytes"
	"math/rand"
	"testing"

	"tollhouse/api"
)

// P9.1: digits that were worked out apart from this program.
func TestDigitsKnown(t *testing.T) {
	for want, b := range map[string]string{
		"":                 "",
		"qq":               "\x00",
		"lu":               "\xFF",
		"qpzq":             "\x00\x44",
		"qqqsyqcyq5rqwzqf": "\x00\x01\x02\x03\x04\x05\x06\x07\x08\x09",
		"llllllll":         "\xFF\xFF\xFF\xFF\xFF",
		plainLetters:       "\x00\x44\x32\x14\xC7\x42\x54\xB6\x35\xCF\x84\x65\x3A\x56\xD7\xC6\x75\xBE\x77\xDF",
	} {
		if got := Digits([]byte(b)); got != want {
			t.Errorf("Digits(% X) = %s, want %s", b, got, want)
		}
		if got, e := Bytes(want); string(got) != b || e != api.OK {
			t.Errorf("Bytes(%s) = % X, %d, want % X", want, got, e, b)
		}
	}
	if got := Digits(nil); got != "" {
		t.Errorf("Digits(nil) = %s", got)
	}
}

// sameBytes holds Bytes of s against the document's words.
func sameBytes(t *testing.T, s string) {
	t.Helper()
	want, ok := plainBytes(s)
	got, e := Bytes(s)
	if ok != (e == api.OK) || !ok && (e != api.ErrCode || len(got) > 0) || !bytes.Equal(got, want) {
		t.Errorf("Bytes(%q) = % X, %d, want % X, %v", s, got, e, want, ok)
	}
}

// P9.1: bytes of all lengths, as digits, and back.
func TestDigitsOfAll(t *testing.T) {
	random := rand.New(rand.NewSource(9))
	for x := range 1 << 16 {
		b := []byte{byte(x >> 8), byte(x)}
		if got := Digits(b); got != plainDigits(b) {
			t.Fatalf("Digits(% X) = %s", b, got)
		}
	}
	for n := range 300 {
		b := make([]byte, n)
		random.Read(b)
		s := Digits(b)
		if s != plainDigits(b) || len(s) != (8*n+4)/5 {
			t.Errorf("Digits(% X) = %s", b, s)
		}
		if back, e := Bytes(s); !bytes.Equal(back, b) || e != api.OK {
			t.Errorf("Bytes(%s) = % X, %d", s, back, e)
		}
	}
}

// P9.1: all texts of one, two and three digits; one whose last bits are not 0, or that are five or more, is none.
func TestBytesShort(t *testing.T) {
	for _, a := range plainLetters {
		sameBytes(t, string(a))
		for _, b := range plainLetters {
			sameBytes(t, string(a)+string(b))
			for _, c := range plainLetters {
				sameBytes(t, string(a)+string(b)+string(c))
			}
		}
	}
	random := rand.New(rand.NewSource(1))
	for n := range 60 {
		for range 200 {
			s := make([]byte, n)
			for i := range s {
				s[i] = plainLetters[random.Intn(32)]
			}
			sameBytes(t, string(s))
		}
	}
	for _, s := range []string{"q", "qqq", "qqqqqq", "qqqqqqqqq", "qqqqqqqqqqq", "qp", "qz", "qr", "qqqp", "qqqqp", "qqqqqqz"} {
		if b, e := Bytes(s); e != api.ErrCode || len(b) > 0 {
			t.Errorf("Bytes(%s) = % X, %d, want ErrCode", s, b, e)
		}
	}
}

// P9.1: a byte that is no digit, wherever it stands, is refused.
func TestBytesOfOthers(t *testing.T) {
	for c := range 256 {
		for _, s := range []string{string([]byte{byte(c)}), string([]byte{byte(c), 'q'}), string([]byte{'q', byte(c)}), string([]byte{'q', 'q', byte(c), 'q'})} {
			sameBytes(t, s)
		}
	}
	// Letters of several bytes: their lowest byte, or their place, is not looked at.
	for _, s := range []string{"\u0171q", "q\u0171", "\u0271q", "q\uFFFDqq", "\U00010071\u0171", "Qq", "qQ", "th1qq", " qq", "qq\n"} {
		if b, e := Bytes(s); e != api.ErrCode || len(b) > 0 {
			t.Errorf("Bytes(%q) = % X, %d, want ErrCode", s, b, e)
		}
	}
}

// R3: what is handed in is not changed, and neither is what lies behind it; answers are new memory.
func TestDigitsMemory(t *testing.T) {
	room := []byte("abcdefgh")
	one, two := Digits(room[:3]), Digits(room[:3])
	if string(room) != "abcdefgh" || one != two {
		t.Errorf("Digits changed %q", room)
	}
	a, _ := Bytes(one)
	b, _ := Bytes(one)
	for _, l := range [][]byte{a, a[:cap(a)]} {
		for i := range l {
			l[i] = '?'
		}
	}
	if c, e := Bytes(one); string(b) != "abc" || string(c) != "abc" || e != api.OK {
		t.Errorf("Bytes shares memory: %q, %q", b, c)
	}
}
