package invoice

import (
	"crypto/sha3"
	"encoding/binary"
	"math/rand"
	"strconv"
	"strings"

	"tollhouse/api"
)

// What stands here is the document's words once more, as plainly as can be, and apart from the program.

const plainLetters = "qpzry9x8gf2tvdw0s3jn54khce6mua7l"

// plainDigits goes by texts of bits.
func plainDigits(b []byte) string {
	var bits strings.Builder
	for _, c := range b {
		for place := 7; place >= 0; place-- {
			bits.WriteString(strconv.Itoa(int(c) >> place & 1))
		}
	}
	for bits.Len()%5 != 0 {
		bits.WriteString("0")
	}
	var out strings.Builder
	for all := bits.String(); all != ""; all = all[5:] {
		digit, _ := strconv.ParseUint(all[:5], 2, 8)
		out.WriteByte(plainLetters[digit])
	}
	return out.String()
}

// plainBytes likewise; false, if there are none.
func plainBytes(s string) ([]byte, bool) {
	bits := ""
	for i := range len(s) {
		digit := strings.IndexByte(plainLetters, s[i])
		if digit < 0 {
			return nil, false
		}
		part := "0000" + strconv.FormatInt(int64(digit), 2)
		bits += part[len(part)-5:]
	}
	var b []byte
	for ; len(bits) >= 8; bits = bits[8:] {
		c, _ := strconv.ParseUint(bits[:8], 2, 8)
		b = append(b, byte(c))
	}
	if len(bits) >= 5 || strings.Contains(bits, "1") {
		return nil, false
	}
	return b, true
}

// record is one whose Type and length are below FD.
func record(kind byte, value ...byte) []byte {
	return append([]byte{kind, byte(len(value))}, value...)
}

// laid is the records of i.
func laid(i api.Invoice) [][]byte {
	l := [][]byte{record(1, byte(i.Node)), record(3, byte(i.Kind))}
	if i.Kind != 3 {
		l = append(l, record(5, i.Hash[:]...))
	}
	return append(l,
		record(7, i.Secret[:]...),
		record(9, binary.BigEndian.AppendUint64(nil, uint64(i.Amount))...),
		record(11, binary.BigEndian.AppendUint32(nil, uint32(i.Expiry))...),
		record(13, []byte(i.Text)...))
}

// joined is the text whose bytes are these records, with the right sum behind.
func joined(records ...[]byte) string {
	var b []byte
	for _, r := range records {
		b = append(b, r...)
	}
	digest := sha3.Sum256(append([]byte("invoice"), b...))
	return "th1" + plainDigits(append(b, digest[:4]...))
}

// stepped is 32 bytes that begin with x.
func stepped(x int) [32]byte {
	var b [32]byte
	for i := range b {
		b[i] = byte(x + 7*i)
	}
	return b
}

// ordinary is an invoice of a kind.
func ordinary(kind int) api.Invoice {
	i := api.Invoice{Node: 5, Kind: kind, Hash: stepped(1), Secret: stepped(2), Amount: 300, Expiry: 1000, Text: "jam, 3 jars"}
	if kind == 3 {
		i.Hash = [32]byte{}
	}
	return i
}

// anyInvoice is one that may be, its numbers of all sizes.
func anyInvoice(random *rand.Rand) api.Invoice {
	number := func(bits int) int { return int(random.Uint64() >> (64 - bits) >> random.Intn(bits)) }
	i := api.Invoice{Node: random.Intn(8), Kind: 1 + random.Intn(3), Amount: max(1, number(63)), Expiry: number(31)}
	random.Read(i.Secret[:])
	if i.Kind != 3 {
		random.Read(i.Hash[:])
	}
	letters := make([]byte, random.Intn(65))
	for k := range letters {
		letters[k] = byte(32 + random.Intn(95))
	}
	i.Text = string(letters)
	return i
}
