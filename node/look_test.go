package node

import (
	"reflect"
	"testing"

	"tollhouse/api"
)

// Of a nil Node, and of one that Open did not make.
func TestNil(t *testing.T) {
	for _, n := range []*Node{nil, {}} {
		out, e := n.On(api.Input{Kind: api.InTick})
		wantErr(t, "On", e, api.ErrClosed)
		tx, e := n.Close(7)
		wantErr(t, "Close", e, api.ErrClosed)
		own, others, open := n.Channel(7)
		views := reflect.DeepEqual(own, api.View{}) && reflect.DeepEqual(others, api.View{})
		if !reflect.DeepEqual(out, api.Output{}) || !reflect.DeepEqual(tx, api.Tx{}) || !views || open {
			t.Error("something of nothing")
		}
		if n.Height() != 0 || n.Inputs() != 0 || n.Dead() || n.Idle() || n.Purse() != (api.Purse{}) {
			t.Error("numbers of nothing")
		}
		state, paid, fees := n.Payment([32]byte{})
		is, got := n.Invoice([32]byte{})
		secret, ok := n.Known([32]byte{})
		if state+paid+fees+is+got != 0 || ok || secret != [32]byte{} || len(n.Tries([32]byte{}))+len(n.Payments())+len(n.Invoices()) > 0 {
			t.Error("payments of nothing")
		}
	}
}

// P24.6: what there is not.
func TestNothing(t *testing.T) {
	x := newCircle(t, func(c *api.Config) { c.Terms = append(c.Terms, between(4, 0, 2, 100, 100)) })
	// A channel of two others is not the node's.
	for _, number := range []int{4, 5, 0, -1} {
		own, others, open := x.n.Channel(number)
		if open || own.A+own.B+others.A+others.B != 0 {
			t.Error("Channel", number)
		}
		_, e := x.n.Close(number)
		wantErr(t, "Close", e, api.ErrNone)
	}
	state, paid, fees := x.n.Payment([32]byte{1})
	is, got := x.n.Invoice([32]byte{1})
	if state+paid+fees+is+got != 0 || len(x.n.Tries([32]byte{1})) > 0 {
		t.Error("payments, invoices")
	}
}

// P24.6: Channel tells both commitments, Close one's own with both tags, Purse what is in all of them.
func TestChannel(t *testing.T) {
	x := newCircle(t)
	a, b := x.pals[7], x.pals[9]
	i := x.bill(1, api.InvoiceHold, 100)
	a.add(100, 40, i.Hash, x.packet(i.Hash, []int{1}, final(i, 100)))
	_, text := billOf(t, 2, api.InvoicePlain, 50)
	x.hand(api.Input{Kind: api.InPay, Text: text})
	b.one(api.NoteAdd)
	for number, p := range x.pals {
		own, others, open := x.n.Channel(number)
		_, theirs := p.Own()
		_, mine := p.Others()
		if !open || !reflect.DeepEqual(own, mine) || !reflect.DeepEqual(others, theirs) {
			t.Error("Channel", number, own, others)
		}
	}
	if p := x.n.Purse(); p != (api.Purse{Open: 500 + 950, Out: 50, In: 100}) {
		t.Error("Purse", p)
	}
	tx, e := x.n.Close(7)
	if e != api.OK || len(tx.Outs) != 3 || tx.Ins[0].Ref != x.c.Terms[0].Fund || tx.Ins[0].TagA == [32]byte{} || tx.Ins[0].TagB == [32]byte{} {
		t.Error("Close", tx, e)
	}
	// While something is new and not signed by both, the two differ.
	b.deaf = true
	_, text = billOf(t, 3, api.InvoicePlain, 10)
	x.hand(api.Input{Kind: api.InPay, Text: text})
	if own, others, _ := x.n.Channel(9); len(own.Htlcs) != 1 || len(others.Htlcs) != 1 || x.n.Idle() {
		t.Error("a pending one is told", own, others)
	}
}

// P24.6: a purse never runs over.
func TestGreatPurse(t *testing.T) {
	x := lonely(t, func(c *api.Config) {
		c.Terms = []api.Terms{between(1, 0, 1, 0, api.MaxMsat), between(2, 0, 1, 0, api.MaxMsat), between(3, 1, 2, api.MaxMsat, 0)}
	})
	if p := x.n.Purse(); p.Open != api.MaxMsat {
		t.Error("Purse", p)
	}
}

// R3: answers are nobody else's.
func TestAnswers(t *testing.T) {
	x := newCircle(t)
	i, text := billOf(t, 2, api.InvoicePlain, 50)
	x.hand(api.Input{Kind: api.InPay, Text: text})
	x.bill(1, api.InvoicePlain, 100)
	on(t, x.n, api.Input{Kind: api.InClose, Number: 9})
	want := faceOf(x.n)
	spoil := faceOf(x.n)
	for _, v := range append(spoil.Own, spoil.Others...) {
		for k := range v.Htlcs {
			v.Htlcs[k] = api.Htlc{}
		}
	}
	for _, tx := range append(spoil.Close, on(t, x.n, api.Input{Kind: api.InBlock, Height: 1}).Txs...) {
		for k := range tx.Outs {
			tx.Outs[k].Paths[0] = api.Path{}
		}
		for k := range tx.Ins {
			tx.Ins[k] = api.In{}
		}
	}
	spoil.Payments[0], spoil.Invoices[0] = [32]byte{}, api.Invoice{}
	spoil.Tries[0][0].Way.Edges[0] = api.Edge{}
	want.Height = 1
	if got := faceOf(x.n); !reflect.DeepEqual(got, want) {
		t.Error("the node changed with what it answered", i)
	}
}

// R3: a configuration is not kept.
func TestConfig(t *testing.T) {
	c := config()
	f := disk(t, 1<<20)
	n, _ := Open(c, f)
	m, _ := Open(c, f.Fork())
	c.Terms[0], c.Terms[1], c.Rules[1] = api.Terms{}, api.Terms{}, api.Rules{}
	in := []api.Input{{Kind: api.InUp, Peer: 0}, {Kind: api.InUp, Peer: 2}, {Kind: api.InInvoice, Number: 1, Amount: 5, Expiry: 9}, {Kind: api.InClose, Number: 7}, {Kind: api.InBlock, Height: 4}}
	wantLike(t, n, m, in)
	if p := n.Purse(); p.Open != 1500 {
		t.Error("Purse", p)
	}
}
