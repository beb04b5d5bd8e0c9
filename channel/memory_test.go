package channel

import (
	"bytes"
	"reflect"
	"testing"

	"tollhouse/api"
)

// roomy is l with room behind its end, filled.
func roomy(l []byte) []byte {
	return append(append(make([]byte, 0, len(l)+4), l...), 8, 8, 8, 8)[:len(l)]
}

// spoil writes over lists, and over the room behind them.
func spoil(l ...[]byte) {
	for _, b := range l {
		b = b[:cap(b)]
		for i := range b {
			b[i] = 99
		}
	}
}

// unchanged tells whether l, which roomy made, is want and its room is as it was.
func unchanged(l, want []byte) bool {
	return bytes.Equal(l, want) && bytes.Equal(l[len(l):cap(l)], []byte{8, 8, 8, 8})
}

// R3: onions and reasons that are handed in, or answered, are nobody else's.
func TestLists(t *testing.T) {
	p := readyPair(t)
	onion := roomy(onionOf(1))
	_, m, _ := p.c[0].Add(100, 41, hashOf(1), onion)
	if !unchanged(onion, onionOf(1)) {
		t.Error("Add changed the onion")
	}
	spoil(onion)
	if !bytes.Equal(m.Onion, onionOf(1)) {
		t.Error("the message shares the onion")
	}
	spoil(m.Onion)
	p.sign(0)
	// It is said again, twice, as it was.
	var heard []byte
	for range 2 {
		p.lose()
		p.meet()
		p.hear(0)
		again := &p.queue[1][1]
		if again.Kind != api.MsgAdd || !bytes.Equal(again.Onion, onionOf(1)) {
			t.Fatal("said again", again.Kind)
		}
		heard = roomy(again.Onion)
		spoil(again.Onion)
		again.Onion = heard
	}
	p.hear(1)
	p.hear(1)
	if !unchanged(heard, onionOf(1)) {
		t.Error("On changed the onion")
	}
	spoil(heard)
	p.agree()
	p.noted("the onion that came", 1, addNote(0, 100, 1))

	reason := roomy(reasonOf(0))
	m, _ = p.c[1].Fail(0, reason)
	if !unchanged(reason, reasonOf(0)) {
		t.Error("Fail changed the reason")
	}
	spoil(reason)
	if !bytes.Equal(m.Reason, reasonOf(0)) {
		t.Error("the message shares the reason")
	}
	spoil(m.Reason)
	p.sign(1)
	p.lose()
	p.meet()
	p.hear(1)
	heard = roomy(p.queue[0][1].Reason)
	p.queue[0][1].Reason = heard
	p.hear(0)
	p.hear(0)
	if !unchanged(heard, reasonOf(0)) {
		t.Error("On changed the reason")
	}
	spoil(heard)
	p.agree()
	p.noted("the reason that came", 0, failedNote(0, 100, 1))
}

// R3: views and transactions that are told are new ones.
func TestAnswers(t *testing.T) {
	p := readyPair(t)
	p.add(0, 100, 1)
	p.add(1, 50, 2)
	p.agree()
	p.add(0, 10, 3)
	p.sign(0)
	before := shape(p.c[0])
	_, v := p.c[0].Own()
	_, w := p.c[0].Others()
	_, x, _ := p.c[0].Pending()
	for _, l := range [][]api.Htlc{v.Htlcs, w.Htlcs, x.Htlcs} {
		clear(l[:cap(l)])
	}
	tx, _ := p.c[0].Close()
	clear(tx.Ins[:cap(tx.Ins)])
	for _, out := range tx.Outs {
		clear(out.Paths[:cap(out.Paths)])
	}
	clear(tx.Outs[:cap(tx.Outs)])
	if !reflect.DeepEqual(shape(p.c[0]), before) {
		t.Error("something changed")
	}
	p.lose()
	if !reflect.DeepEqual(shape(p.c[0])[:8], before[:8]) {
		t.Error("something changed behind Down")
	}
}

// Behind both commitments have an update nobody asks for its lists any more: they are not kept.
func TestForgotten(t *testing.T) {
	p := readyPair(t)
	p.add(0, 100, 1)
	p.add(0, 10, 2)
	p.agree()
	p.fail(1, 1)
	p.agree()
	for i, c := range p.c {
		for _, m := range append(append([]api.Msg{}, c.own...), c.others...) {
			if len(m.Onion)+len(m.Reason) != 0 {
				t.Error("kept", i, m.Kind, m.Id)
			}
		}
	}
}
