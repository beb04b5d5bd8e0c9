package invoice

import "tollhouse/api"

// Types of the fields' records. All are odd: a reader passes over those that it does not know.
const (
	typeNode = 1 + 2*iota
	typeKind
	typeHash
	typeSecret
	typeAmount
	typeExpiry
	typeText
)

// field is one of an invoice's: the Type of its record, its bytes, and how it is set to what bytes say. Limits are left to May.
type field struct {
	kind    uint64
	written func() []byte
	read    func(value []byte) bool
}

// fields are all that i can have, by rising Types.
func fields(i *api.Invoice) []field {
	return []field{
		number(typeNode, &i.Node, 1),
		number(typeKind, &i.Kind, 1),
		array(typeHash, &i.Hash),
		array(typeSecret, &i.Secret),
		number(typeAmount, &i.Amount, 8),
		number(typeExpiry, &i.Expiry, 4),
		text(typeText, &i.Text),
	}
}

// eachField does something to the fields that i has, by rising Types, till one is not well. Whether there is a Hash hangs on the Kind, which is ahead of it.
func eachField(i *api.Invoice, do func(f field) bool) bool {
	for _, f := range fields(i) {
		if f.kind == typeHash && i.Kind == api.InvoiceSet {
			continue
		}
		if !do(f) {
			return false
		}
	}
	return true
}

// number is a field of size bytes, the highest first.
func number(kind uint64, x *int, size int) field {
	return field{
		kind: kind,
		written: func() []byte {
			value := make([]byte, size)
			for i := range value {
				value[i] = byte(*x >> (8 * (size - 1 - i)))
			}
			return value
		},
		read: func(value []byte) bool {
			n := uint64(0)
			for _, c := range value {
				n = n<<8 | uint64(c)
			}
			// An amount that is beyond all becomes one below 0, which may not be either.
			*x = int(n)
			return len(value) == size
		},
	}
}

func array(kind uint64, x *[32]byte) field {
	return field{
		kind:    kind,
		written: func() []byte { return x[:] },
		read:    func(value []byte) bool { copy(x[:], value); return len(value) == len(x) },
	}
}

func text(kind uint64, x *string) field {
	return field{
		kind:    kind,
		written: func() []byte { return []byte(*x) },
		read:    func(value []byte) bool { *x = string(value); return true },
	}
}
