package node

import (
	"slices"

	"tollhouse/api"
	"tollhouse/bigsize"
)

// field is one of an input: its type in the stream of them, its bytes (none, if it is zero), and how it is made of such bytes.
type field struct {
	kind  uint64
	write func() []byte
	read  func(b []byte) bool
}

// encode is the bytes of an input, if it may be kept: a stream of those of its fields that are not zero.
func encode(in api.Input) ([]byte, bool) {
	if !within(in.Kind, api.InStart, api.InClose) {
		return nil, false
	}
	var l []api.Record
	for _, f := range fieldsOf(&in) {
		if value := f.write(); len(value) > 0 {
			l = append(l, api.Record{Type: f.kind, Value: value})
		}
	}
	b, e := bigsize.Encode(l)
	return b, e == api.OK && len(b) <= api.MaxInput
}

// read is the input that b tells of, if there is one; it may be written otherwise.
func read(b []byte) (api.Input, bool) {
	// Fields have odd types.
	l, e := bigsize.Decode(b, nil)
	if e != api.OK {
		return api.Input{}, false
	}
	var in api.Input
	for _, f := range fieldsOf(&in) {
		if value, there := bigsize.Find(l, f.kind); there && !f.read(value) {
			return api.Input{}, false
		}
	}
	return in, true
}

// fieldsOf is all fields of in, by rising types.
func fieldsOf(in *api.Input) []field {
	return []field{
		numberField(1, &in.Kind),
		numberField(3, &in.Peer),
		{5, func() []byte { return in.Bytes }, func(b []byte) bool { in.Bytes = slices.Clone(b); return true }},
		numberField(7, &in.Height),
		{9, func() []byte { return txsBytes(in.Txs) }, func(b []byte) bool { return readTxs(b, &in.Txs) }},
		numberField(11, &in.Number),
		numberField(13, &in.Amount),
		numberField(15, &in.Expiry),
		{17, func() []byte { return []byte(in.Text) }, func(b []byte) bool { in.Text = string(b); return true }},
		arrayField(19, &in.Hash),
		arrayField(21, &in.Secret),
	}
}

// numberField is a field that is any number.
func numberField(kind uint64, x *int) field {
	return field{kind, func() []byte {
		if *x == 0 {
			return nil
		}
		return putNumber(nil, *x)
	}, func(b []byte) bool {
		r := reader{rest: b}
		*x = r.number()
		return r.ended()
	}}
}

// arrayField is a field of 32 bytes.
func arrayField(kind uint64, x *[32]byte) field {
	return field{kind, func() []byte {
		if *x == [32]byte{} {
			return nil
		}
		return slices.Clone(x[:])
	}, func(b []byte) bool {
		r := reader{rest: b}
		*x = r.array()
		return r.ended()
	}}
}

// putNumber is b with any number behind.
func putNumber(b []byte, n int) []byte {
	return append(b, bigsize.Put(nil, uint64(n))...)
}
