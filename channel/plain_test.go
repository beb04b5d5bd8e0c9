package channel

import (
	"crypto/sha3"
	"encoding/binary"

	"tollhouse/api"
	"tollhouse/chain"
	"tollhouse/deal"
	"tollhouse/secrets"
	"tollhouse/updates"
	"tollhouse/wire"
)

// plainSigned is a commitment with its updates themselves, as the document's words have it.
type plainSigned struct {
	number int
	own    []api.Msg
	others []api.Msg
	tag    [32]byte
}

// plain is a channel by the document's words, apart from the program: nothing is ever forgotten, and all is looked up.
type plain struct {
	t       api.Terms
	p       api.Party
	own     []api.Msg
	others  []api.Msg
	mine    plainSigned
	theirs  plainSigned
	pending *plainSigned
	points  [][32]byte // the other one's, by number
	told    [][32]byte // the other one's secrets, by number
	up      bool
	ready   bool
	broken  bool
}

func newPlain(t api.Terms, p api.Party) *plain {
	x := &plain{t: t, p: p, points: [][32]byte{p.Points[0], p.Points[1]}}
	x.mine.tag = plainTag(p.Other, x.ownTx(x.mine))
	return x
}

// list is l in memory of its own.
func list(l []api.Msg) []api.Msg {
	return append([]api.Msg(nil), l...)
}

func plainTag(key [32]byte, x api.Tx) [32]byte {
	id := chain.Id(x)
	b := append([]byte{2, 't', 'x'}, key[:]...)
	b = binary.LittleEndian.AppendUint64(b, 32)
	return sha3.Sum256(append(b, id[:]...))
}

func (x *plain) peer() int {
	return x.t.A + x.t.B - x.p.Node
}

// ab is A's and B's updates of own and others'.
func (x *plain) ab(own, others []api.Msg) ([]api.Msg, []api.Msg) {
	if x.p.Node == x.t.A {
		return own, others
	}
	return others, own
}

func (x *plain) view(s plainSigned) (api.View, api.Errno) {
	a, b := x.ab(s.own, s.others)
	return updates.View(x.t, a, b, len(a), len(b))
}

func (x *plain) ownTx(s plainSigned) api.Tx {
	v, _ := x.view(s)
	tx, _ := deal.Commit(x.t, x.p.Node, secrets.Point(x.p.Seed, s.number), v)
	return tx
}

func (x *plain) othersTx(s plainSigned) api.Tx {
	v, _ := x.view(s)
	tx, _ := deal.Commit(x.t, x.peer(), x.points[s.number], v)
	return tx
}

func (x *plain) locked() int    { return min(len(x.mine.others), len(x.theirs.others)) }
func (x *plain) lockedOwn() int { return min(len(x.mine.own), len(x.theirs.own)) }

func (x *plain) doUp() (api.Msg, api.Errno) {
	if x.broken {
		return api.Msg{}, api.ErrBroken
	}
	if x.up {
		return api.Msg{}, api.ErrTwice
	}
	x.up, x.ready = true, false
	return api.Msg{Kind: api.MsgHello, Channel: x.t.Channel, Number: x.mine.number, Told: x.theirs.number, Point: secrets.Point(x.p.Seed, x.mine.number)}, api.OK
}

func (x *plain) doDown() []api.Note {
	x.up, x.ready = false, false
	keep := len(x.theirs.own)
	if x.pending != nil {
		keep = max(keep, len(x.pending.own))
	}
	var notes []api.Note
	for _, m := range x.own[keep:] {
		if m.Kind == api.MsgAdd {
			notes = append(notes, api.Note{Kind: api.NoteDropped, Channel: x.t.Channel, Id: m.Id, Amount: m.Amount, Hash: m.Hash})
		}
	}
	x.own, x.others = list(x.own[:keep]), list(x.others[:len(x.mine.others)])
	return notes
}

func (x *plain) refuses() api.Errno {
	if x.broken {
		return api.ErrBroken
	}
	if !x.ready {
		return api.ErrDown
	}
	return api.OK
}

func (x *plain) add(amount, expiry int, hash [32]byte, onion []byte) (int, api.Msg, api.Errno) {
	if e := x.refuses(); e != api.OK {
		return 0, api.Msg{}, e
	}
	m := api.Msg{Kind: api.MsgAdd, Channel: x.t.Channel, Amount: amount, Expiry: expiry, Hash: hash, Onion: onion}
	for _, y := range x.own {
		if y.Kind == api.MsgAdd {
			m.Id++
		}
	}
	a, b := x.ab(x.own, x.mine.others)
	if e := updates.May(x.t, a, b, x.p.Node, m); e != api.OK {
		return 0, api.Msg{}, e
	}
	x.own = append(x.own, m)
	return m.Id, m, api.OK
}

func plainAdd(l []api.Msg, id int) int {
	for i, m := range l {
		if m.Kind == api.MsgAdd && m.Id == id {
			return i
		}
	}
	return -1
}

func plainSettles(l []api.Msg, id int) bool {
	for _, m := range l {
		if m.Kind != api.MsgAdd && m.Id == id {
			return true
		}
	}
	return false
}

func (x *plain) settle(m api.Msg) (api.Msg, api.Errno) {
	m.Channel = x.t.Channel
	if e := x.refuses(); e != api.OK {
		return api.Msg{}, e
	}
	i := plainAdd(x.others, m.Id)
	if i < 0 || plainSettles(x.own, m.Id) {
		return api.Msg{}, api.ErrNone
	}
	if i >= x.locked() {
		return api.Msg{}, api.ErrEarly
	}
	if m.Kind == api.MsgFulfil && sha3.Sum256(m.Secret[:]) != x.others[i].Hash {
		return api.Msg{}, api.ErrSecret
	}
	if len(m.Reason) > 256 {
		return api.Msg{}, api.ErrLong
	}
	x.own = append(x.own, m)
	return m, api.OK
}

func (x *plain) sign() (api.Msg, bool) {
	if x.refuses() != api.OK || x.pending != nil || x.theirs.number >= 4093 {
		return api.Msg{}, false
	}
	if len(x.own) == len(x.theirs.own) && len(x.mine.others) == len(x.theirs.others) {
		return api.Msg{}, false
	}
	x.pending = &plainSigned{number: x.theirs.number + 1, own: list(x.own), others: list(x.mine.others)}
	return x.signMsg(), true
}

func (x *plain) signMsg() api.Msg {
	return api.Msg{Kind: api.MsgSign, Channel: x.t.Channel, Number: x.pending.number, Tag: plainTag(x.p.Key, x.othersTx(*x.pending))}
}

func (x *plain) revokeMsg() api.Msg {
	n := x.mine.number
	return api.Msg{Kind: api.MsgRevoke, Channel: x.t.Channel, Number: n - 1, Secret: secrets.At(x.p.Seed, n-1), Point: secrets.Point(x.p.Seed, n+1)}
}

func (x *plain) on(m api.Msg) ([]api.Msg, []api.Note, api.Errno) {
	if x.broken {
		return nil, nil, api.ErrBroken
	}
	if !wire.May(m) || m.Channel != x.t.Channel {
		return nil, nil, api.ErrArg
	}
	if !x.up || !x.ready && m.Kind != api.MsgHello {
		return nil, nil, api.ErrDown
	}
	if x.breaks(m) {
		x.broken = true
		return nil, nil, api.ErrClash
	}
	ahead := x.locked()
	switch m.Kind {
	case api.MsgHello:
		x.ready = true
		return x.again(m), nil, api.OK
	case api.MsgSign:
		x.mine = plainSigned{number: m.Number, own: x.theirs.own, others: list(x.others), tag: m.Tag}
		return []api.Msg{x.revokeMsg()}, x.news(ahead), api.OK
	case api.MsgRevoke:
		x.told, x.points = append(x.told, m.Secret), append(x.points, m.Point)
		x.theirs, x.pending = *x.pending, nil
		return nil, x.news(ahead), api.OK
	case api.MsgFulfil:
		x.others = append(x.others, m)
		add := x.own[plainAdd(x.own, m.Id)]
		return nil, []api.Note{{Kind: api.NotePaid, Channel: x.t.Channel, Id: m.Id, Amount: add.Amount, Hash: add.Hash, Secret: m.Secret}}, api.OK
	}
	x.others = append(x.others, m)
	return nil, nil, api.OK
}

func (x *plain) breaks(m api.Msg) bool {
	switch m.Kind {
	case api.MsgHello:
		told := m.Told == x.mine.number || m.Told == x.mine.number-1
		number := m.Number == x.theirs.number || x.pending != nil && m.Number == x.theirs.number+1
		return x.ready || !told || !number
	case api.MsgSign:
		s := plainSigned{number: m.Number, own: x.theirs.own, others: x.others}
		_, e := x.view(s)
		return m.Number != x.mine.number+1 || m.Number >= 4094 || e != api.OK || m.Tag != plainTag(x.p.Other, x.ownTx(s))
	case api.MsgRevoke:
		shelf := secrets.NewShelf()
		for _, s := range x.told {
			shelf.Put(s)
		}
		return x.pending == nil || m.Number != x.theirs.number || sha3.Sum256(m.Secret[:]) != x.points[m.Number] ||
			shelf.Put(m.Secret) != api.OK || m.Point == [32]byte{}
	}
	a, b := x.ab(x.theirs.own, x.others)
	return updates.May(x.t, a, b, x.peer(), m) != api.OK || m.Kind != api.MsgAdd && plainAdd(x.own, m.Id) >= x.lockedOwn()
}

// news is the notes of what is locked, but for the first ahead.
func (x *plain) news(ahead int) []api.Note {
	var notes []api.Note
	for _, m := range x.others[ahead:x.locked()] {
		if m.Kind == api.MsgAdd {
			notes = append(notes, api.Note{Kind: api.NoteAdd, Channel: x.t.Channel, Id: m.Id, Amount: m.Amount, Expiry: m.Expiry, Hash: m.Hash, Onion: m.Onion})
		}
		if m.Kind == api.MsgFail {
			add := x.own[plainAdd(x.own, m.Id)]
			notes = append(notes, api.Note{Kind: api.NoteFailed, Channel: x.t.Channel, Id: m.Id, Amount: add.Amount, Hash: add.Hash, Reason: m.Reason})
		}
	}
	return notes
}

// again is what is said behind a MsgHello that may be.
func (x *plain) again(m api.Msg) []api.Msg {
	var revoke, pending []api.Msg
	if m.Told == x.mine.number-1 {
		revoke = []api.Msg{x.revokeMsg()}
	}
	if x.pending != nil && m.Number == x.theirs.number {
		pending = append(list(x.pending.own[len(x.theirs.own):]), x.signMsg())
	}
	if x.pending != nil && len(x.pending.others) == len(x.mine.others) {
		return append(revoke, pending...)
	}
	return append(pending, revoke...)
}

func (x *plain) signed(s plainSigned) api.Signed {
	return api.Signed{Number: s.number, Own: len(s.own), Other: len(s.others), Tag: s.tag}
}

func (x *plain) closeTx() api.Tx {
	tx := x.ownTx(x.mine)
	tx.Ins[0].TagA, tx.Ins[0].TagB = plainTag(x.p.Key, tx), x.mine.tag
	if x.p.Node == x.t.B {
		tx.Ins[0].TagA, tx.Ins[0].TagB = tx.Ins[0].TagB, tx.Ins[0].TagA
	}
	return tx
}

func (x *plain) idle() bool {
	a, b := x.ab(x.own, x.others)
	v, e := updates.View(x.t, a, b, len(a), len(b))
	return x.pending == nil && e == api.OK && len(v.Htlcs) == 0 &&
		len(x.mine.own) == len(x.own) && len(x.mine.others) == len(x.others) &&
		len(x.theirs.own) == len(x.own) && len(x.theirs.others) == len(x.others)
}
