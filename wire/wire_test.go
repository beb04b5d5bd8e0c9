package wire

import (
	"bytes"
	"math"
	"reflect"
	"slices"
	"testing"

	"tollhouse/api"
)

// filledArray is 32 bytes that are told apart from other fields' by first.
func filledArray(first byte) [32]byte {
	var x [32]byte
	for i := range x {
		x[i] = first + byte(i)
	}
	return x
}

func testOnion() []byte {
	return bytes.Repeat([]byte("tollhous"), api.OnionSize/8)
}

// full is a message with every field set, more than any kind has.
func full(kind int) api.Msg {
	return api.Msg{
		Kind: kind, Channel: 258, Id: 3, Amount: 1 << 40, Expiry: 500, Hash: filledArray(10), Onion: testOnion(), Secret: filledArray(20),
		Point: filledArray(30), Tag: filledArray(40), Number: 65536, Told: 255, Reason: []byte("no way"),
	}
}

// ordinary is, of each kind, a message that may be.
func ordinary() []api.Msg {
	x := full(0)
	return []api.Msg{
		{Kind: 1, Channel: x.Channel, Id: x.Id, Amount: x.Amount, Expiry: x.Expiry, Hash: x.Hash, Onion: x.Onion},
		{Kind: 2, Channel: x.Channel, Id: x.Id, Secret: x.Secret},
		{Kind: 3, Channel: x.Channel, Id: x.Id, Reason: x.Reason},
		{Kind: 4, Channel: x.Channel, Number: x.Number, Tag: x.Tag},
		{Kind: 5, Channel: x.Channel, Number: x.Number, Secret: x.Secret, Point: x.Point},
		{Kind: 6, Channel: x.Channel, Number: x.Number, Told: x.Told, Point: x.Point},
	}
}

// same tells whether a and b are the same message; nil and empty lists are.
func same(a, b api.Msg) bool {
	onions, reasons := bytes.Equal(a.Onion, b.Onion), bytes.Equal(a.Reason, b.Reason)
	a.Onion, b.Onion, a.Reason, b.Reason = nil, nil, nil, nil
	return onions && reasons && reflect.DeepEqual(a, b)
}

// record is the bytes of one record, laid by hand; its type is below 253.
func record(kind byte, value ...byte) []byte {
	if len(value) < 253 {
		return slices.Concat([]byte{kind, byte(len(value))}, value)
	}
	return slices.Concat([]byte{kind, 0xFD, byte(len(value) >> 8), byte(len(value))}, value)
}

// laid is the records of the bytes of ordinary's message of kind, by hand.
func laid(kind int) [][]byte {
	array := func(t, first byte) []byte {
		x := filledArray(first)
		return record(t, x[:]...)
	}
	channel, id, number := record(1, 1, 2), record(3, 3), record(19, 1, 0, 0)
	switch kind {
	case 1:
		return [][]byte{channel, id, record(5, 1, 0, 0, 0, 0, 0), record(7, 1, 0xF4), array(9, 10), record(11, testOnion()...)}
	case 2:
		return [][]byte{channel, id, array(13, 20)}
	case 3:
		return [][]byte{channel, id, record(23, []byte("no way")...)}
	case 4:
		return [][]byte{channel, array(17, 40), number}
	case 5:
		return [][]byte{channel, array(13, 20), array(15, 30), number}
	}
	return [][]byte{channel, array(15, 30), number, record(21, 255)}
}

// message is a Kind and records behind it.
func message(kind int, records ...[]byte) []byte {
	return slices.Concat([]byte{byte(kind >> 8), byte(kind)}, slices.Concat(records...))
}

// noKinds are kinds that there are not; the lowest bytes of some are those of kinds that there are.
func noKinds() []int {
	return []int{0, 7, 8, -1, -6, 256, 257, 260, 1 << 16, 1<<16 + 1, 1<<32 + 2, math.MinInt, math.MinInt + 3, math.MaxInt}
}

// P6.1: the bytes of each kind, laid by hand.
func TestEncode(t *testing.T) {
	for _, m := range ordinary() {
		want := message(m.Kind, laid(m.Kind)...)
		if got, e := Encode(m); e != api.OK || !bytes.Equal(got, want) {
			t.Errorf("Encode of the kind %d = % X, %d, want % X", m.Kind, got, e, want)
		}
	}
}

// P6.1, the document's example: a number 0 has no bytes, but its record stands.
func TestEncodeExample(t *testing.T) {
	m := api.Msg{Kind: api.MsgFulfil, Channel: 1, Secret: filledArray(1)}
	want := slices.Concat([]byte{0, 2, 1, 1, 1, 3, 0, 0x0D, 0x20}, m.Secret[:])
	if got, e := Encode(m); e != api.OK || !bytes.Equal(got, want) {
		t.Errorf("Encode = % X, %d", got, e)
	}
	m = api.Msg{Kind: api.MsgFail, Channel: 1}
	if got, e := Encode(m); e != api.OK || !bytes.Equal(got, []byte{0, 3, 1, 1, 1, 3, 0, 23, 0}) {
		t.Errorf("Encode = % X, %d", got, e)
	}
}

// P6.1: a number has as few bytes as can be.
func TestNumbers(t *testing.T) {
	for _, c := range []struct {
		amount int
		want   []byte
	}{
		{0, nil}, {1, []byte{1}}, {255, []byte{255}}, {256, []byte{1, 0}}, {65535, []byte{255, 255}}, {65536, []byte{1, 0, 0}},
		{1<<24 - 1, []byte{255, 255, 255}}, {1 << 24, []byte{1, 0, 0, 0}}, {1 << 32, []byte{1, 0, 0, 0, 0}}, {1 << 56, []byte{1, 0, 0, 0, 0, 0, 0, 0}},
		{0x0102030405060708, []byte{1, 2, 3, 4, 5, 6, 7, 8}}, {api.MaxMsat, []byte{127, 255, 255, 255, 255, 255, 255, 255}},
	} {
		m := ordinary()[0]
		m.Amount = c.amount
		records := laid(1)
		records[2] = record(5, c.want...)
		got, e := Encode(m)
		if want := message(1, records...); e != api.OK || !bytes.Equal(got, want) {
			t.Errorf("Encode of the amount %d: %d", c.amount, e)
		}
		if back, e := Decode(got); e != api.OK || !same(back, m) {
			t.Errorf("Decode of the amount %d = %d, %d", c.amount, back.Amount, e)
		}
	}
}

// change is a message's field set to something, and whether kinds that have the field allow it.
type change struct {
	name  string
	set   func(m *api.Msg)
	kinds []int // that have the field
	may   bool
	zero  bool
}

// changes are each field's edges.
func changes() []change {
	var l []change
	number := func(name string, kinds []int, least, most int, at func(m *api.Msg) *int) {
		for _, x := range []int{math.MinInt, -1, 0, 1, 2, most - 1, most, most + 1, most + 2, math.MaxInt} {
			l = append(l, change{name, func(m *api.Msg) { *at(m) = x }, kinds, least <= x && x <= most, x == 0})
		}
	}
	array := func(name string, kinds []int, at func(m *api.Msg) *[32]byte) {
		for _, x := range [][32]byte{{}, {1}, {31: 128}, filledArray(5)} {
			l = append(l, change{name, func(m *api.Msg) { *at(m) = x }, kinds, true, x == [32]byte{}})
		}
	}
	list := func(name string, kinds []int, least, most int, at func(m *api.Msg) *[]byte) {
		l = append(l, change{name + " nil", func(m *api.Msg) { *at(m) = nil }, kinds, least == 0, true})
		for _, n := range []int{0, 1, 255, 256, 257, 2111, 2112, 2113, 70000} {
			l = append(l, change{name, func(m *api.Msg) { *at(m) = make([]byte, n) }, kinds, least <= n && n <= most, n == 0})
		}
	}
	number("Channel", []int{1, 2, 3, 4, 5, 6}, 1, 65535, func(m *api.Msg) *int { return &m.Channel })
	number("Id", []int{1, 2, 3}, 0, 1<<31-1, func(m *api.Msg) *int { return &m.Id })
	number("Amount", []int{1}, 0, 1<<63-1, func(m *api.Msg) *int { return &m.Amount })
	number("Expiry", []int{1}, 0, 1<<31-1, func(m *api.Msg) *int { return &m.Expiry })
	number("Number", []int{4, 5, 6}, 0, 1<<31-1, func(m *api.Msg) *int { return &m.Number })
	number("Told", []int{6}, 0, 1<<31-1, func(m *api.Msg) *int { return &m.Told })
	array("Hash", []int{1}, func(m *api.Msg) *[32]byte { return &m.Hash })
	array("Secret", []int{2, 5}, func(m *api.Msg) *[32]byte { return &m.Secret })
	array("Point", []int{5, 6}, func(m *api.Msg) *[32]byte { return &m.Point })
	array("Tag", []int{4}, func(m *api.Msg) *[32]byte { return &m.Tag })
	list("Onion", []int{1}, 2112, 2112, func(m *api.Msg) *[]byte { return &m.Onion })
	list("Reason", []int{3}, 0, 256, func(m *api.Msg) *[]byte { return &m.Reason })
	return l
}

// P6.1, P6.3: of each kind each field at its edges: whether it may be, whether it is encoded, and that it is decoded then.
func TestMay(t *testing.T) {
	for _, m := range ordinary() {
		if !May(m) {
			t.Errorf("the kind %d may not be", m.Kind)
		}
		for _, c := range changes() {
			x := m
			c.set(&x)
			want := c.zero
			if slices.Contains(c.kinds, m.Kind) {
				want = c.may
			}
			if May(x) != want {
				t.Errorf("May of the kind %d with another %s is not %v: %v", m.Kind, c.name, want, x)
			}
			b, e := Encode(x)
			if !want {
				if e != api.ErrArg || len(b) != 0 {
					t.Errorf("Encode of the kind %d with another %s = % X, %d", m.Kind, c.name, b, e)
				}
				continue
			}
			if back, d := Decode(b); e != api.OK || d != api.OK || !same(back, x) {
				t.Errorf("the kind %d with another %s, there and back: %d, %d, %v", m.Kind, c.name, e, d, back)
			}
		}
	}
}

// P6.1: no other kind may be, with whatever fields.
func TestNoKind(t *testing.T) {
	for _, kind := range noKinds() {
		l := append(ordinary(), api.Msg{}, api.Msg{Channel: 1}, full(0))
		for _, m := range l {
			m.Kind = kind
			if b, e := Encode(m); May(m) || e != api.ErrArg || len(b) != 0 {
				t.Errorf("the kind %d may be, or is encoded: %d", kind, e)
			}
		}
	}
}

// P6.1: Bare leaves a kind's fields, whether they may be or not, and no others.
func TestBare(t *testing.T) {
	for _, m := range ordinary() {
		if got := Bare(full(m.Kind)); !same(got, m) {
			t.Errorf("Bare of the kind %d = %v", m.Kind, got)
		}
		if got := Bare(m); !same(got, m) {
			t.Errorf("Bare of a bare one of the kind %d = %v", m.Kind, got)
		}
		for _, c := range changes() {
			x, want := full(m.Kind), m
			c.set(&x)
			if slices.Contains(c.kinds, m.Kind) {
				c.set(&want)
			}
			if got := Bare(x); !same(got, want) {
				t.Errorf("Bare of the kind %d with another %s = %v", m.Kind, c.name, got)
			}
		}
	}
	for _, kind := range noKinds() {
		if got := Bare(full(kind)); !same(got, api.Msg{Kind: kind}) {
			t.Errorf("Bare of the kind %d = %v", kind, got)
		}
	}
}

// R3: what is handed in is not changed, nor the room behind it, and answers share nothing with it.
func TestMemory(t *testing.T) {
	room := bytes.Repeat([]byte("toll"), 1000)
	before := bytes.Clone(room)
	add, fail := ordinary()[0], ordinary()[2]
	add.Onion, fail.Reason = room[:api.OnionSize], room[5:40]
	for _, m := range []api.Msg{add, fail} {
		May(m)
		bare := Bare(m)
		b, _ := Encode(m)
		again, _ := Encode(m)
		x, _ := Decode(b[:len(b):len(b)])
		y, _ := Decode(b)
		if !bytes.Equal(b, again) || !same(x, m) || !same(y, m) {
			t.Fatalf("the kind %d, there and back", m.Kind)
		}
		for _, l := range [][]byte{bare.Onion, bare.Reason, x.Onion, x.Reason, again} {
			clear(l[:cap(l)])
		}
		if !bytes.Equal(room, before) {
			t.Fatalf("the kind %d: an argument was changed, or is shared", m.Kind)
		}
		if z, e := Decode(b); e != api.OK || !same(z, m) || !same(y, m) {
			t.Errorf("the kind %d: answers are shared", m.Kind)
		}
	}
}
