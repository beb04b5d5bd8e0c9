package node

import (
	"bytes"
	"testing"

	"tollhouse/api"
	"tollhouse/invoice"
	"tollhouse/onion"
)

// bill lets the node make an invoice.
func (x *circle) bill(n, kind, sum int) api.Invoice {
	x.t.Helper()
	out := x.hand(api.Input{Kind: api.InInvoice, Number: kind, Amount: sum, Expiry: 90, Secret: preimage(n), Hash: hashOf(n)})
	i, e := invoice.Decode(out.Text)
	if out.Answer != api.OK || e != api.OK {
		x.t.Fatal("InInvoice", out.Answer, e)
	}
	return i
}

// final is the hop that pays part of i.
func final(i api.Invoice, sum int) api.Hop {
	return api.Hop{Amount: sum, Expiry: 40, Secret: i.Secret, Total: i.Amount}
}

// P24.4: an HTLC for this node is kept, as the registry says.
func TestKeep(t *testing.T) {
	x := newCircle(t)
	a, b := x.pals[7], x.pals[9]
	i := x.bill(1, api.InvoicePlain, 100)
	a.add(60, 40, i.Hash, x.packet(i.Hash, []int{1}, final(i, 60)))
	a.none(api.NotePaid)
	if s, got := x.n.Invoice(i.Secret); s != api.InvoiceOpen || got != 60 || x.n.Idle() {
		t.Error("one part", s, got)
	}
	// With the second one both are paid at once.
	b.add(40, 40, i.Hash, x.packet(i.Hash, []int{1}, final(i, 40)))
	if n := a.one(api.NotePaid); n.Secret != preimage(1) || n.Amount != 60 {
		t.Error("the first part", n)
	}
	if n := b.one(api.NotePaid); n.Secret != preimage(1) || n.Amount != 40 {
		t.Error("the second part", n)
	}
	if s, got := x.n.Invoice(i.Secret); s != api.InvoiceSettled || got != 100 || !x.n.Idle() {
		t.Error("settled", s, got)
	}
	if own, others, _ := x.n.Channel(7); own.A != 940 || own.B != 560 || others.A != 940 || len(own.Htlcs)+len(others.Htlcs) > 0 {
		t.Error("Channel", own, others)
	}
	// What the registry refuses is failed, for its reason.
	a.add(100, 40, i.Hash, x.packet(i.Hash, []int{1}, final(i, 100)))
	x.wantReason(a, 0, api.ReasonGone, 1)
	a.add(10, 40, hashOf(5), x.packet(hashOf(5), []int{1}, api.Hop{Amount: 10, Expiry: 40, Total: 10, Secret: [32]byte{1}}))
	x.wantReason(a, 0, api.ReasonUnknown, 1)
	j := x.bill(2, api.InvoicePlain, 100)
	a.add(99, 40, j.Hash, x.packet(j.Hash, []int{1}, final(j, 100)))
	x.wantReason(a, 0, api.ReasonAmount, 1)
	a.add(100, 6, j.Hash, x.packet(j.Hash, []int{1}, api.Hop{Amount: 100, Expiry: 6, Secret: j.Secret, Total: 100}))
	x.wantReason(a, 0, api.ReasonSoon, 1)
	if !x.n.Idle() {
		t.Error("something is left")
	}
}

// P24.4: parts wait for so many ticks, or till they expire soon.
func TestWait(t *testing.T) {
	x := newCircle(t)
	a := x.pals[7]
	i := x.bill(1, api.InvoicePlain, 100)
	for _, byHeight := range []bool{false, true} {
		a.add(60, 40, i.Hash, x.packet(i.Hash, []int{1}, final(i, 60)))
		if byHeight {
			x.height(33)
			a.none(api.NoteFailed)
			x.height(34)
			x.wantReason(a, 0, api.ReasonSoon, 1)
			continue
		}
		for range x.c.Wait - 1 {
			x.hand(api.Input{Kind: api.InTick})
		}
		a.none(api.NoteFailed)
		x.hand(api.Input{Kind: api.InTick})
		x.wantReason(a, 0, api.ReasonTimeout, 1)
	}
	if !x.n.Idle() {
		t.Error("something is left")
	}
}

// P24.3: a hold invoice is paid when it is settled, and failed when it is cancelled.
func TestHold(t *testing.T) {
	x := newCircle(t)
	a := x.pals[7]
	i, j := x.bill(1, api.InvoiceHold, 100), x.bill(2, api.InvoiceHold, 100)
	settle := api.Input{Kind: api.InSettle, Hash: i.Hash, Secret: preimage(1)}
	wantAnswer(t, x.n, settle, api.ErrState)
	a.add(100, 40, i.Hash, x.packet(i.Hash, []int{1}, final(i, 100)))
	a.add(100, 40, j.Hash, x.packet(j.Hash, []int{1}, final(j, 100)))
	a.none(api.NotePaid)
	wantAnswer(t, x.n, api.Input{Kind: api.InSettle, Hash: i.Hash, Secret: preimage(2)}, api.ErrSecret)
	wantAnswer(t, x.n, api.Input{Kind: api.InSettle, Hash: hashOf(3), Secret: preimage(3)}, api.ErrNone)
	for _, hash := range [][32]byte{i.Hash, hashOf(2), hashOf(3)} {
		if _, ok := x.n.Known(hash); ok {
			t.Error("a secret is known that was not used")
		}
	}
	if out := x.hand(settle); out.Answer != api.OK {
		t.Error("InSettle", out.Answer)
	}
	if n := a.one(api.NotePaid); n.Secret != preimage(1) {
		t.Error("paid", n)
	}
	if secret, ok := x.n.Known(i.Hash); !ok || secret != preimage(1) {
		t.Error("Known")
	}
	cancel := api.Input{Kind: api.InCancel, Secret: j.Secret}
	if out := x.hand(cancel); out.Answer != api.OK {
		t.Error("InCancel", out.Answer)
	}
	x.wantReason(a, 0, api.ReasonGone, 1)
	wantAnswer(t, x.n, cancel, api.ErrState)
	wantAnswer(t, x.n, api.Input{Kind: api.InCancel, Secret: [32]byte{9}}, api.ErrNone)
	if !x.n.Idle() {
		t.Error("something is left")
	}
}

// P24.4: an HTLC whose onion cannot be opened is failed.
func TestStrangeOnion(t *testing.T) {
	x := newCircle(t)
	a := x.pals[7]
	i := x.bill(1, api.InvoicePlain, 100)
	good := x.packet(i.Hash, []int{1}, final(i, 100))
	changed := bytes.Clone(good)
	changed[500] ^= 1
	for what, c := range map[string]struct {
		packet []byte
		hash   [32]byte
	}{
		"changed":          {changed, i.Hash},
		"another hash":     {good, hashOf(2)},
		"for another node": {x.packet(i.Hash, []int{2}, final(i, 100)), i.Hash},
		"nothing":          {make([]byte, api.OnionSize), i.Hash},
	} {
		a.add(100, 40, c.hash, c.packet)
		n := a.one(api.NoteFailed)
		key, _ := onion.Key(x.key(1), c.packet)
		if _, told, e := onion.Unwrap([][32]byte{key}, n.Reason); e != api.OK || !bytes.Equal(told, []byte{api.ReasonOnion}) {
			t.Error(what, told, e)
		}
	}
	if s, got := x.n.Invoice(i.Secret); s != api.InvoiceOpen || got != 0 || !x.n.Idle() {
		t.Error("invoice", s, got)
	}
}

// next is what node 1 is told to hand on to node 2, and the last hop.
func next(sum, expiry int) []api.Hop {
	return []api.Hop{{Channel: 9, Amount: sum, Expiry: expiry}, {Amount: sum, Expiry: expiry, Total: sum}}
}

// P24.4: what is handed on, and how it is paid: as soon as that is known.
func TestHandOn(t *testing.T) {
	x := newCircle(t)
	a, b := x.pals[7], x.pals[9]
	a.add(301, 40, hashOf(1), x.packet(hashOf(1), []int{1, 2}, next(300, 25)...))
	n := b.one(api.NoteAdd)
	if n.Amount != 300 || n.Expiry != 25 || n.Hash != hashOf(1) {
		t.Fatal("handed on", n)
	}
	if hop, rest, e := onion.Peel(x.key(2), n.Onion, n.Hash); e != api.OK || hop.Total != 300 || rest != nil {
		t.Error("the next packet", hop, e)
	}
	if x.n.Idle() {
		t.Error("idle with something handed on")
	}
	if p := x.n.Purse(); p != (api.Purse{Open: 500 + 700, Out: 300, In: 301}) {
		t.Error("Purse", p)
	}
	// The secret alone is enough: nothing is signed yet.
	x.deaf = true
	b.fulfil(n.Id, preimage(1))
	if _, ok := x.n.Known(hashOf(1)); !ok {
		t.Error("not Known")
	}
	x.deaf = false
	x.all()
	if m := a.one(api.NotePaid); m.Secret != preimage(1) || m.Id != 0 {
		t.Error("paid", m)
	}
	b.sign()
	if p := x.n.Purse(); p.Open != 1501 || p.Out+p.In > 0 || !x.n.Idle() {
		t.Error("in the end", p, x.n.Idle())
	}
}

// P24.4: it is failed only when it failed for good, with what came back wrapped.
func TestHandBack(t *testing.T) {
	x := newCircle(t)
	a, b := x.pals[7], x.pals[9]
	packet := x.packet(hashOf(1), []int{1, 2}, next(300, 25)...)
	for _, c := range []struct {
		reason         []byte
		place, reason2 int
	}{{nil, 0, api.ReasonNext}, {[]byte("short"), 0, api.ReasonNext}, {make([]byte, 256), 0, api.ReasonNext}, {nil, 1, api.ReasonGone}} {
		a.add(301, 40, hashOf(1), packet)
		n := b.one(api.NoteAdd)
		reason := c.reason
		if c.place == 1 {
			key, _ := onion.Key(x.key(2), n.Onion)
			reason, _ = onion.Fail(key, []byte{api.ReasonGone})
		}
		b.fail(n.Id, reason)
		a.none(api.NoteFailed)
		b.sign()
		x.wantReason(a, c.place, c.reason2, 1, 2)
		if !x.n.Idle() {
			t.Error("something is left")
		}
	}
	if p := x.n.Purse(); p != (api.Purse{Open: 1500}) {
		t.Error("Purse", p)
	}
}

// P24.4: what is not handed on, and why.
func TestNotHandedOn(t *testing.T) {
	for _, c := range []struct {
		what        string
		sum, expiry int
		hop         api.Hop
		reason      int
		change      func(x *circle)
	}{
		{"fee", 300, 40, api.Hop{Channel: 9, Amount: 300, Expiry: 25}, api.ReasonFee, nil},
		{"delta", 301, 40, api.Hop{Channel: 9, Amount: 300, Expiry: 26}, api.ReasonDelta, nil},
		{"soon", 301, 40, api.Hop{Channel: 9, Amount: 300, Expiry: 6}, api.ReasonSoon, nil},
		{"soon by height", 301, 40, api.Hop{Channel: 9, Amount: 300, Expiry: 25}, api.ReasonSoon, func(x *circle) { x.height(19) }},
		{"far", 301, 501, api.Hop{Channel: 9, Amount: 300, Expiry: 25}, api.ReasonFar, nil},
		{"amount", 301, 40, api.Hop{Channel: 9, Amount: 0, Expiry: 25}, api.ReasonAmount, nil},
		{"no such channel", 301, 40, api.Hop{Channel: 8, Amount: 300, Expiry: 25}, api.ReasonNext, nil},
		{"more than the channel has", 990, 40, api.Hop{Channel: 9, Amount: 989, Expiry: 25}, api.ReasonNext, func(x *circle) { x.pay9(20) }},
		{"nobody there", 301, 40, api.Hop{Channel: 9, Amount: 300, Expiry: 25}, api.ReasonNext, func(x *circle) { x.hand(api.Input{Kind: api.InDown, Peer: 2}) }},
		{"closed", 301, 40, api.Hop{Channel: 9, Amount: 300, Expiry: 25}, api.ReasonNext, func(x *circle) { x.hand(api.Input{Kind: api.InClose, Number: 9}) }},
	} {
		x := newCircle(t)
		if c.change != nil {
			c.change(x)
		}
		a, b := x.pals[7], x.pals[9]
		a.add(c.sum, c.expiry, hashOf(1), x.packet(hashOf(1), []int{1, 2}, c.hop, api.Hop{Amount: 1, Total: 1}))
		n := a.one(api.NoteFailed)
		if place, reason := x.reason(n.Reason, 1, 2); place != 0 || reason != c.reason {
			t.Errorf("%s: at %d for %d", c.what, place, reason)
		}
		b.none(api.NoteAdd)
		if c.what != "closed" && !x.n.Idle() {
			t.Error(c.what, "something is left")
		}
	}
}

// pay9 lets the node pay sum over channel 9.
func (x *circle) pay9(sum int) {
	x.t.Helper()
	i := api.Invoice{Node: 2, Kind: api.InvoicePlain, Hash: hashOf(77), Secret: [32]byte{7, 7}, Amount: sum, Expiry: 90}
	text, _ := invoice.Encode(i)
	if out := x.hand(api.Input{Kind: api.InPay, Text: text}); out.Answer != api.OK {
		x.t.Fatal("InPay", out.Answer)
	}
	n := x.pals[9].one(api.NoteAdd)
	x.pals[9].fulfil(n.Id, preimage(77))
	x.pals[9].sign()
}

// P24.4: what is to be paid or failed is so when its channel is ready, again and again.
func TestSettleAgain(t *testing.T) {
	for _, pay := range []bool{true, false} {
		x := newCircle(t)
		a, b := x.pals[7], x.pals[9]
		a.add(301, 40, hashOf(1), x.packet(hashOf(1), []int{1, 2}, next(300, 25)...))
		n := b.one(api.NoteAdd)
		// Node 0 is gone when it ends.
		x.hand(api.Input{Kind: api.InDown, Peer: 0})
		if pay {
			b.fulfil(n.Id, preimage(1))
		} else {
			key, _ := onion.Key(x.key(2), n.Onion)
			reason, _ := onion.Fail(key, []byte{api.ReasonGone})
			b.fail(n.Id, reason)
		}
		b.sign()
		if x.n.Idle() {
			t.Error("idle, and something is to be settled")
		}
		for k := range 3 {
			// It is said, and lost again: the node said it, but it was not signed for good.
			x.deaf = true
			x.hand(api.Input{Kind: api.InUp, Peer: 0})
			hello, _ := a.Up()
			out := a.say(hello)
			kinds := kindsOf(t, out)
			want := []int{api.MsgFulfil, api.MsgSign}
			if !pay {
				want[0] = api.MsgFail
			}
			if len(kinds) != 2 || kinds[0] != want[0] || kinds[1] != want[1] {
				t.Fatal("round", k, "said", kinds)
			}
			x.queue = nil
			x.deaf = false
			x.hand(api.Input{Kind: api.InDown, Peer: 0})
		}
		// A node that begins anew does so too.
		m, e := Open(x.c, x.f)
		if e != api.OK {
			t.Fatal("Open", e)
		}
		x.n = m
		x.hand(api.Input{Kind: api.InUp, Peer: 0})
		if pay {
			if l := a.take(api.NotePaid); len(l) == 0 || l[0].Secret != preimage(1) {
				t.Error("not paid", l)
			}
		} else {
			x.wantReason(a, 1, api.ReasonGone, 1, 2)
		}
		x.hand(api.Input{Kind: api.InUp, Peer: 2})
		if !x.n.Idle() {
			t.Error("something is left", pay)
		}
	}
}
