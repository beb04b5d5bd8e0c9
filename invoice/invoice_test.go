package invoice

import (
	"bytes"
	"math"
	"math/rand"
	"slices"
	"strings"
	"testing"

	"tollhouse/api"
)

// known are invoices whose texts were worked out apart from this program.
func known() map[string]api.Invoice {
	return map[string]api.Invoice{
		"th1qyqsqqcpqyzjqqggputp6fptxgu5q36w24wxx6n30plcdrv5nw32nv9hhmzue576qusqyzgszu0z2tpn8fq5sn6kt4jxkuneszrca9vu5w4trw9lcmxafkcfpqqqqqqqqqqqqqgtqsqqqqqqp5qvus8ewu": {
			Node: 0, Kind: api.InvoicePlain, Hash: stepped(1), Secret: stepped(2), Amount: 1, Expiry: 0,
		},
		"th1qyqswqcpqgzjqqc2zyvp7f3dxsa5yj2s2a0x2mrn02qc3ruknkj2hv4ecrrua4wuqusqqqqqqqqqqqqqqqqqqqqqqqqqqqqqqqqqqqqqqqqqqqqqqqqqqqqfppllllllllllllctq3llllllp4qzql3q0cs8ugr7yplzql3q0cs8ugr7yplzql3q0cs8ugr7yplzql3q0cs8ugr7yplzql3q0cs8ugr7yplzql3q0cs8ugr7yplzql3q0cgka8zh": {
			Node: 7, Kind: api.InvoiceHold, Hash: stepped(3), Amount: 1<<63 - 1, Expiry: 1<<31 - 1, Text: strings.Repeat(" ~", 32),
		},
		"th1qyqsxqcpqvrjqpgvzvdzz2p0xc75gj6jt9sxwmn40jpc4yvcn7n2md9mctyap477pyyqzqsrqszsvpcgpvzq5zcvp5xsk6npd5kzqveqdfshyueuag5fv": {
			Node: 3, Kind: api.InvoiceSet, Secret: stepped(5), Amount: 0x0102030405060708, Expiry: 0x0A0B0C0D, Text: "jam, 3 jars",
		},
	}
}

// taken asks that Decode answers want.
func taken(t *testing.T, name, s string, want api.Invoice) {
	t.Helper()
	if i, e := Decode(s); e != api.OK || i != want {
		t.Errorf("%s: Decode(%q) = %v, %d, want %v", name, s, i, e, want)
	}
}

// refused asks that Decode answers an error, and nothing beside.
func refused(t *testing.T, name, s string, want api.Errno) {
	t.Helper()
	if i, e := Decode(s); e != want || i != (api.Invoice{}) {
		t.Errorf("%s: Decode(%q) = %v, %d, want the error %d", name, s, i, e, want)
	}
}

// P9.2: known texts.
func TestKnown(t *testing.T) {
	for s, i := range known() {
		if got, e := Encode(i); got != s || e != api.OK {
			t.Errorf("Encode(%v) = %s, %d, want %s", i, got, e, s)
		}
		taken(t, "known", s, i)
	}
}

// may asks whether an invoice may be, and so whether it is encoded; what may not be is not decoded either, as far as it can be written down.
func may(t *testing.T, name string, i api.Invoice, want bool) {
	t.Helper()
	if got := May(i); got != want {
		t.Errorf("%s: May(%v) = %v", name, i, got)
	}
	s, e := Encode(i)
	if !want {
		if s != "" || e != api.ErrArg {
			t.Errorf("%s: Encode(%v) = %q, %d, want ErrArg", name, i, s, e)
		}
		return
	}
	if e != api.OK || s != joined(laid(i)...) {
		t.Errorf("%s: Encode(%v) = %q, %d", name, i, s, e)
	}
	taken(t, name, s, i)
}

// P9.1, P9.2: each limit.
func TestMay(t *testing.T) {
	may(t, "nothing", api.Invoice{}, false)
	for kind := 1; kind <= 3; kind++ {
		for node := -10; node <= 300; node++ {
			i := ordinary(kind)
			i.Node = node
			may(t, "Node", i, 0 <= node && node <= 7)
		}
		for _, n := range []int{math.MinInt, -1 << 32, -1, 0, 1, 2, 255, 1<<31 - 1, 1 << 31, 1 << 32, 1<<32 + 1, 1 << 40, 1<<63 - 1} {
			i := ordinary(kind)
			i.Amount = n
			may(t, "Amount", i, n >= 1)
			i = ordinary(kind)
			i.Expiry = n
			may(t, "Expiry", i, 0 <= n && n <= 1<<31-1)
			i = ordinary(kind)
			i.Node = n
			may(t, "Node", i, 0 <= n && n <= 7)
		}
		i := ordinary(kind)
		i.Secret = [32]byte{}
		may(t, "Secret", i, true)
	}
	for _, kind := range []int{math.MinInt, -1, 0, 1, 2, 3, 4, 5, 255, 256, 257, 259, 1 << 32, 1<<32 + 1, math.MaxInt} {
		i := ordinary(1)
		i.Kind = kind
		may(t, "Kind with a Hash", i, kind == 1 || kind == 2)
		i.Hash = [32]byte{}
		may(t, "Kind without", i, kind == 3)
		for at := range 32 {
			i.Hash = [32]byte{}
			i.Hash[at] = 1
			may(t, "Kind with a byte of a Hash", i, kind == 1 || kind == 2)
		}
	}
}

// P9.1: texts of all lengths, and of all bytes.
func TestMayText(t *testing.T) {
	i := ordinary(1)
	for n := range 200 {
		i.Text = strings.Repeat("x", n)
		may(t, "length", i, n <= 64)
	}
	for c := range 256 {
		for _, text := range []string{string([]byte{byte(c)}), string([]byte{'a', byte(c)}), string([]byte{byte(c), 'z'})} {
			i.Text = text
			may(t, "byte", i, 32 <= c && c <= 126)
		}
	}
	for _, text := range []string{"\u00E4", "\u0141", "\u2022", "\uFFFD", "\U0001F36F", "\xC3", "\xE2\x80", "a\x00b", strings.Repeat("\u0141", 32), strings.Repeat("x", 63) + "\u0141"} {
		i.Text = text
		may(t, "letter", i, false)
	}
}

// P9.2: what does not begin with th1, whatever comes behind.
func TestDecodeBeginning(t *testing.T) {
	s := joined(laid(ordinary(1))...)
	for _, other := range []string{"", "t", "th", "h1", "1", "th2", "TH1", "Th1", "tH1", "ht1", " th1", "th 1", "th11", "xth1", "th1th1", "th\u0661"} {
		refused(t, "beginning", other+s[3:], api.ErrCode)
		refused(t, "beginning alone", other, api.ErrCode)
	}
	// A wrong sum is not come to.
	refused(t, "beginning ahead of the sum", "th2"+s[3:len(s)-7]+"qqqqqqq", api.ErrCode)
	for n := range 3 {
		refused(t, "cut", s[:n], api.ErrCode)
	}
}

// P9.2: what is no digits, or has fewer than four bytes; ahead of a wrong sum.
func TestDecodeNoDigits(t *testing.T) {
	s := joined(laid(ordinary(1))...)
	for _, other := range []string{"b", "i", "o", "1", "Q", " ", "\n", "\x00", "\xFF", "\u0171"} {
		for _, at := range []int{3, 4, 40, len(s) - 1, len(s)} {
			refused(t, "a letter more", s[:at]+other+s[at:], api.ErrCode)
			if at < len(s) {
				refused(t, "another letter", s[:at]+other+s[at+1:], api.ErrCode)
			}
		}
	}
	refused(t, "upper case", "th1"+strings.ToUpper(s[3:]), api.ErrCode)
	for n := range 4 {
		refused(t, "few bytes", "th1"+plainDigits(make([]byte, n)), api.ErrCode)
		refused(t, "few bytes", "th1"+plainDigits(bytes.Repeat([]byte{255}, n)), api.ErrCode)
	}
	refused(t, "four bytes of no sum", "th1"+plainDigits(make([]byte, 4)), api.ErrSum)
	refused(t, "the sum of nothing", joined(), api.ErrCode)
}

// P9.2: another digit anywhere, or another end, is another sum; or no digits, if it is the last one that has bits left over.
func TestDecodeSum(t *testing.T) {
	for kind := 1; kind <= 3; kind++ {
		s := joined(laid(ordinary(kind))...)
		for at := 3; at < len(s); at++ {
			for _, letter := range plainLetters {
				other := s[:at] + string(letter) + s[at+1:]
				if other == s {
					continue
				}
				want := api.ErrSum
				if _, ok := plainBytes(other[3:]); !ok {
					want = api.ErrCode
				}
				refused(t, "another digit", other, want)
			}
		}
		for n := 3; n < len(s); n++ {
			want := api.ErrSum
			if b, ok := plainBytes(s[3:n]); !ok || len(b) < 4 {
				want = api.ErrCode
			}
			refused(t, "cut", s[:n], want)
		}
		// With the next ones behind: eight digits are five bytes.
		refused(t, "longer", s+"qqqqqqqq", api.ErrSum)
	}
	// A stream that is none is not come to.
	b, _ := plainBytes(joined([]byte{2, 0})[3:])
	b[len(b)-1] ^= 1
	refused(t, "sum ahead of the stream", "th1"+plainDigits(b), api.ErrSum)
}

// P9.2: a record that is wanting, twice there, out of order, or longer than said.
func TestDecodeRecords(t *testing.T) {
	for kind := 1; kind <= 3; kind++ {
		records := laid(ordinary(kind))
		taken(t, "laid", joined(records...), ordinary(kind))
		for k := range records {
			refused(t, "wanting", joined(slices.Delete(slices.Clone(records), k, k+1)...), api.ErrCode)
			refused(t, "twice", joined(slices.Insert(slices.Clone(records), k, records[k])...), api.ErrCode)
			if k > 0 {
				turned := slices.Clone(records)
				turned[k-1], turned[k] = turned[k], turned[k-1]
				refused(t, "out of order", joined(turned...), api.ErrCode)
			}
		}
		whole := slices.Concat(records...)
		for n := range whole {
			refused(t, "cut, with its sum", joined(whole[:n]), api.ErrCode)
		}
		for _, rest := range [][]byte{{0}, {15}, {15, 1}, {15, 0xFD, 0, 0}, {0xFD, 0, 15, 0}, {15, 0, 15, 0}, {15, 0, 13, 0}, {0xFD}} {
			refused(t, "something behind", joined(whole, rest), api.ErrCode)
		}
	}
}

// P9.2: no even type is known; other odd ones are passed over.
func TestDecodeTypes(t *testing.T) {
	values := [][]byte{nil, {0}, {1}, make([]byte, 4), make([]byte, 8), bytes.Repeat([]byte{255}, 32), make([]byte, 64), make([]byte, 252)}
	for kind := 1; kind <= 3; kind++ {
		records := laid(ordinary(kind))
		for x := range 0xFD {
			at, has := slices.BinarySearchFunc(records, x, func(r []byte, x int) int { return int(r[0]) - x })
			if has {
				continue
			}
			for _, value := range values {
				s := joined(slices.Insert(slices.Clone(records), at, record(byte(x), value...))...)
				if x%2 == 0 {
					refused(t, "even", s, api.ErrCode)
				} else {
					taken(t, "odd", s, ordinary(kind))
				}
			}
		}
		taken(t, "a long type", joined(append(records, []byte{0xFE, 1, 0, 0, 1, 2, 0, 0})...), ordinary(kind))
		taken(t, "the last type", joined(append(records, append(bytes.Repeat([]byte{255}, 9), 0))...), ordinary(kind))
		refused(t, "a long even type", joined(append(records, []byte{0xFE, 1, 0, 0, 2, 2, 0, 0})...), api.ErrCode)
	}
}

// P9.2: as many records and bytes as a stream may have are taken, one more is not.
func TestDecodeLimits(t *testing.T) {
	want := ordinary(2)
	records := laid(want)
	for len(records) < api.MaxRecords {
		records = append(records, record(byte(31+2*len(records))))
	}
	taken(t, "64 records", joined(records...), want)
	refused(t, "65 records", joined(append(records, record(251))...), api.ErrCode)

	whole := slices.Concat(laid(want)...)
	long := func(n int) []byte {
		return append([]byte{101, 0xFD, byte(n >> 8), byte(n)}, make([]byte, n)...)
	}
	// What is left of a stream, less the record's type and its length in three bytes.
	left := api.MaxStream - len(whole) - 4
	taken(t, "65536 bytes", joined(whole, long(left)), want)
	refused(t, "65537 bytes", joined(whole, long(left+1)), api.ErrCode)
}

// P9.2: each record of another length.
func TestDecodeLengths(t *testing.T) {
	for kind := 1; kind <= 3; kind++ {
		for k, r := range laid(ordinary(kind)) {
			if r[0] == 13 {
				continue
			}
			for n := range 70 {
				if n == int(r[1]) {
					continue
				}
				for _, fill := range []byte{0, 1} {
					records := laid(ordinary(kind))
					value := bytes.Repeat([]byte{fill}, n)
					refused(t, "filled", joined(slices.Replace(records, k, k+1, record(r[0], value...))...), api.ErrCode)
				}
				// What is there, longer or shorter, at its beginning and at its end.
				ahead, behind := append(make([]byte, n), r[2:]...), append(slices.Clone(r[2:]), make([]byte, n)...)
				for _, value := range [][]byte{ahead[len(ahead)-n:], behind[:n]} {
					records := laid(ordinary(kind))
					refused(t, "another length", joined(slices.Replace(records, k, k+1, record(r[0], value...))...), api.ErrCode)
				}
			}
		}
	}
}

// P9.2: an invoice that may not be, with the right sum.
func TestDecodeMay(t *testing.T) {
	wrong := func(name string, kind, k int, r []byte) {
		t.Helper()
		refused(t, name, joined(slices.Replace(laid(ordinary(kind)), k, k+1, r)...), api.ErrCode)
	}
	for x := range 256 {
		if x > 7 {
			wrong("Node", 1, 0, record(1, byte(x)))
		}
		if x < 1 || x > 3 {
			wrong("Kind", 1, 1, record(3, byte(x)))
			wrong("Kind, no Hash", 3, 1, record(3, byte(x)))
		}
		if x < 32 || x > 126 {
			wrong("Text", 1, 6, record(13, 'a', byte(x)))
		}
		if x > 127 {
			wrong("Amount", 1, 4, record(9, byte(x), 0, 0, 0, 0, 0, 0, 1))
			wrong("Expiry", 1, 5, record(11, byte(x), 0, 0, 0))
		}
	}
	wrong("Amount of 0", 1, 4, record(9, make([]byte, 8)...))
	wrong("Amount of all bits", 1, 4, record(9, bytes.Repeat([]byte{255}, 8)...))
	wrong("Expiry of all bits", 1, 5, record(11, bytes.Repeat([]byte{255}, 4)...))
	wrong("Hash of zeros", 1, 2, record(5, make([]byte, 32)...))
	wrong("Hash of zeros", 2, 2, record(5, make([]byte, 32)...))
	for n := 65; n < 253; n++ {
		wrong("Text too long", 1, 6, record(13, bytes.Repeat([]byte{'x'}, n)...))
	}
}

// P9.2: the record 5 is none of a set's, so it is one of another odd type there.
func TestDecodeHashOfSet(t *testing.T) {
	for _, value := range [][]byte{nil, {1}, make([]byte, 32), bytes.Repeat([]byte{1}, 32), make([]byte, 33)} {
		records := slices.Insert(laid(ordinary(3)), 2, record(5, value...))
		taken(t, "a Hash beside a set", joined(records...), ordinary(3))
	}
}

// P9.3: what was encoded is decoded; what is decoded may be, and has one text of its own.
func TestThereAndBack(t *testing.T) {
	random := rand.New(rand.NewSource(9))
	for range 3000 {
		i := anyInvoice(random)
		s, e := Encode(i)
		if e != api.OK || s != joined(laid(i)...) {
			t.Fatalf("Encode(%v) = %q, %d", i, s, e)
		}
		taken(t, "there and back", s, i)
		records := laid(i)
		r := records[random.Intn(len(records))]
		if len(r) > 2 {
			r[2+random.Intn(len(r)-2)] ^= 1 << random.Intn(8)
		}
		x, e := Decode(joined(records...))
		if e != api.OK {
			refused(t, "changed", joined(records...), api.ErrCode)
			continue
		}
		if again, e := Encode(x); !May(x) || e != api.OK {
			t.Fatalf("what is decoded may not be: %v", x)
		} else {
			taken(t, "changed, there and back", again, x)
		}
	}
}

// R1: whatever comes, an answer comes.
func TestDecodeAnything(t *testing.T) {
	random := rand.New(rand.NewSource(7))
	for range 5000 {
		b := make([]byte, random.Intn(40))
		random.Read(b)
		for _, s := range []string{string(b), "th1" + string(b), "th1" + plainDigits(b), joined(b)} {
			if i, e := Decode(s); e == api.OK || i != (api.Invoice{}) {
				t.Fatalf("Decode(%q) = %v, %d", s, i, e)
			}
		}
	}
}
