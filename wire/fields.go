package wire

import "tollhouse/api"

// Types of the fields' records. All are odd: a reader passes over those that it does not know.
const (
	typeChannel = 1 + 2*iota
	typeId
	typeAmount
	typeExpiry
	typeHash
	typeOnion
	typeSecret
	typePoint
	typeTag
	typeNumber
	typeTold
	typeReason
)

// fieldsOf is the Types of the fields that a kind has, rising; none, if there is no such kind.
func fieldsOf(kind int) []uint64 {
	switch kind {
	case api.MsgAdd:
		return []uint64{typeChannel, typeId, typeAmount, typeExpiry, typeHash, typeOnion}
	case api.MsgFulfil:
		return []uint64{typeChannel, typeId, typeSecret}
	case api.MsgFail:
		return []uint64{typeChannel, typeId, typeReason}
	case api.MsgSign:
		return []uint64{typeChannel, typeTag, typeNumber}
	case api.MsgRevoke:
		return []uint64{typeChannel, typeSecret, typePoint, typeNumber}
	case api.MsgHello:
		return []uint64{typeChannel, typePoint, typeNumber, typeTold}
	}
	return nil
}

// deed is what is done to a field, by its form: a number and a list are handed over with their limits. It answers whether all is well.
type deed struct {
	number func(x *int, least, most int) bool
	array  func(x *[32]byte) bool
	list   func(x *[]byte, least, most int) bool
}

// to does it to the field of m that has the Type t.
func (d deed) to(m *api.Msg, t uint64) bool {
	switch t {
	case typeChannel:
		return d.number(&m.Channel, 1, api.MaxChannel)
	case typeId:
		return d.number(&m.Id, 0, api.MaxId)
	case typeAmount:
		return d.number(&m.Amount, 0, api.MaxMsat)
	case typeExpiry:
		return d.number(&m.Expiry, 0, api.MaxExpiry)
	case typeHash:
		return d.array(&m.Hash)
	case typeOnion:
		return d.list(&m.Onion, api.OnionSize, api.OnionSize)
	case typeSecret:
		return d.array(&m.Secret)
	case typePoint:
		return d.array(&m.Point)
	case typeTag:
		return d.array(&m.Tag)
	case typeNumber:
		return d.number(&m.Number, 0, api.MaxExpiry)
	case typeTold:
		return d.number(&m.Told, 0, api.MaxExpiry)
	case typeReason:
		return d.list(&m.Reason, 0, api.MaxReason)
	}
	return false
}

// toAll does own to the fields that m's kind has and other to the rest, till one of them is not well.
func toAll(m *api.Msg, own, other deed) bool {
	has := fieldsOf(m.Kind)
	for t := uint64(typeChannel); t <= typeReason; t += 2 {
		d := other
		if len(has) > 0 && has[0] == t {
			d = own
			has = has[1:]
		}
		if !d.to(m, t) {
			return false
		}
	}
	return true
}
