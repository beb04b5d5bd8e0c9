package node

import (
	"reflect"
	"testing"

	"tollhouse/api"
	"tollhouse/chain"
	"tollhouse/mac"
)

// wantShut asks from which height on the channel is closed, and its commitment published at each block.
func (x *circle) wantShut(number, height int) {
	x.t.Helper()
	for h := max(x.n.Height(), height-3); h < height; h++ {
		out := on(x.t, x.n, api.Input{Kind: api.InBlock, Height: h})
		if _, _, open := x.n.Channel(number); !open || len(out.Txs) > 0 {
			x.t.Fatal("closed at", h, "and not at", height)
		}
	}
	want, _ := x.n.Close(number)
	for h := height; h < height+3; h++ {
		out := on(x.t, x.n, api.Input{Kind: api.InBlock, Height: h})
		if _, _, open := x.n.Channel(number); open || len(out.Txs) != 1 || !reflect.DeepEqual(out.Txs[0], want) {
			x.t.Fatal("not closed at", h)
		}
	}
}

// P24.5: a channel is closed, Margin blocks behind the expiry of one of the node's own HTLCs.
func TestDueOwn(t *testing.T) {
	x := newCircle(t)
	_, text := billOf(t, 1, api.InvoicePlain, 100)
	x.hand(api.Input{Kind: api.InPay, Text: text})
	x.pals[9].one(api.NoteAdd)
	x.wantShut(9, api.LastDelta+x.c.Margin)
	// Also if only a commitment of the other one has it that is pending.
	x = newCircle(t)
	x.pals[9].deaf = true
	x.hand(api.Input{Kind: api.InPay, Text: text})
	own, others, _ := x.n.Channel(9)
	if len(own.Htlcs)+len(others.Htlcs) > 0 {
		t.Fatal("it is not only pending")
	}
	x.wantShut(9, api.LastDelta+x.c.Margin)
}

// P24.5: a channel is closed, Delay and Margin blocks ahead of the expiry of one of the other one's HTLCs, if its secret is known.
func TestDueOthers(t *testing.T) {
	x := newCircle(t)
	a, b := x.pals[7], x.pals[9]
	a.add(301, 40, hashOf(1), x.packet(hashOf(1), []int{1, 2}, next(300, 25)...))
	n := b.one(api.NoteAdd)
	a.deaf = true
	b.fulfil(n.Id, preimage(1))
	b.sign()
	x.wantShut(7, 40-x.c.Terms[0].Delay-x.c.Margin)
	if _, _, open := x.n.Channel(9); !open {
		t.Error("the other channel is closed too")
	}
	// What pays an invoice is not known in this sense till it is paid: its part is failed.
	x = newCircle(t)
	a = x.pals[7]
	i := x.bill(1, api.InvoicePlain, 100)
	a.add(60, 40, i.Hash, x.packet(i.Hash, []int{1}, final(i, 60)))
	a.deaf = true
	for h := 30; h < 60; h++ {
		if out := on(t, x.n, api.Input{Kind: api.InBlock, Height: h}); len(out.Txs) > 0 {
			t.Fatal("closed for a part of an invoice that is not paid", h)
		}
	}
	if s, got := x.n.Invoice(i.Secret); s != api.InvoiceOpen || got != 0 {
		t.Error("Invoice", s, got)
	}
}

// closing is a net of three in a row, in which node 0 pays node 2, which holds it; nodes a and b have lost one another then, and a has closed their channel.
func closing(t *testing.T, kind, sum, a, b int) (*net, made) {
	t.Helper()
	x := newNet(t, 3, between(1, 0, 1, 1000, 100), between(2, 1, 2, 1000, 100))
	x.allUp()
	x.all()
	m := x.bill(2, kind, sum, 50)
	x.pay(0, m, 1)
	x.all()
	if s, got := x.nodes[2].Invoice(m.invoice.Secret); s != api.InvoiceHeld || got != sum {
		t.Fatal("not held", s, got)
	}
	x.lose(a, b)
	number := 1 + min(a, b)
	out, e := x.hand(a, api.Input{Kind: api.InClose, Number: number})
	if e != api.OK || out.Answer != api.OK {
		t.Fatal("InClose", e, out.Answer)
	}
	x.block()
	if !x.spent(x.terms[number-1]) {
		t.Fatal("not closed")
	}
	return x, m
}

// settle lets the payee settle m.
func (x *net) settle(m made) {
	x.t.Helper()
	out, e := x.hand(m.node, api.Input{Kind: api.InSettle, Hash: m.invoice.Hash, Secret: m.preimage})
	if e != api.OK || out.Answer != api.OK {
		x.t.Fatal("InSettle", e, out.Answer)
	}
}

// P24.5: what is closed is claimed with the secret, which is taken by who sees it there; wherever on the way that is, and whoever closed.
func TestPaidOnChain(t *testing.T) {
	for _, c := range [][2]int{{0, 1}, {1, 0}, {1, 2}, {2, 1}} {
		x, m := closing(t, api.InvoiceHold, 300, c[0], c[1])
		x.settle(m)
		x.calm(10)
		x.wantPaid(0, m, 1)
		if !x.quiet() {
			t.Error("not quiet", c)
		}
		for i, n := range x.nodes {
			if secret, ok := n.Known(m.invoice.Hash); !ok || secret != m.preimage {
				t.Error("not Known by", i)
			}
			if s := x.short(i); s > 0 {
				t.Error(i, "is short by", s)
			}
		}
	}
}

// P24.5: and otherwise taken back when it expires; then what was handed on is failed.
func TestTakenBackOnChain(t *testing.T) {
	for _, c := range [][2]int{{0, 1}, {1, 0}, {1, 2}, {2, 1}} {
		x, m := closing(t, api.InvoiceHold, 300, c[0], c[1])
		last := x.nodes[0].Tries(m.invoice.Secret)[0].Way.Expiries[min(c[0], c[1])]
		for x.chain.Height() < last-1 {
			x.calm(1)
			if s, _, _ := x.nodes[0].Payment(m.invoice.Secret); s != api.PayOpen {
				t.Fatal("failed ahead of the expiry", c, x.chain.Height(), last)
			}
		}
		x.calm(8)
		// Nobody paid it in time: the payee cancelled it.
		x.wantFailed(0, m, api.InvoiceCancelled)
		if !x.quiet() {
			t.Error("not quiet", c)
		}
		for i := range x.nodes {
			if s := x.short(i); s > 0 {
				t.Error(i, "is short by", s)
			}
		}
	}
}

// P24.5: HTLCs that are not worth to be claimed failed as soon as the channel's money is spent.
func TestDustOnChain(t *testing.T) {
	for _, c := range []struct {
		sum  int
		gone bool
	}{{1, true}, {2, false}} {
		x, m := closing(t, api.InvoiceHold, c.sum, 1, 2)
		// The payer's is failed by messages.
		x.all()
		s, _, _ := x.nodes[0].Payment(m.invoice.Secret)
		if (s == api.PayFailed) != c.gone {
			t.Error("of", c.sum, "state", s)
		}
		// The payee may settle it: it does not get what is not worth it.
		x.settle(m)
		x.calm(8)
		if c.gone {
			x.wantFailed(0, m, api.InvoiceSettled)
		} else {
			x.wantPaid(0, m, 1)
		}
		if !x.quiet() {
			t.Error("not quiet", c)
		}
	}
}

// P24.5: HTLCs that are not in the commitment failed.
func TestNotInCommitment(t *testing.T) {
	for _, signed := range []bool{true, false} {
		x := newCircle(t)
		a, b := x.pals[7], x.pals[9]
		old, _ := b.Close()
		b.deaf = true
		if !signed {
			// Behind one that is signed and not answered.
			_, text := billOf(t, 5, api.InvoicePlain, 10)
			x.hand(api.Input{Kind: api.InPay, Text: text})
		}
		i, text := billOf(t, 1, api.InvoicePlain, 100)
		x.hand(api.Input{Kind: api.InPay, Text: text})
		a.add(31, 40, hashOf(3), x.packet(hashOf(3), []int{1, 2}, next(30, 25)...))
		a.none(api.NoteFailed)
		if s, _, _ := x.n.Payment(i.Secret); s != api.PayOpen {
			t.Fatal("Payment", s)
		}
		out := x.hand(api.Input{Kind: api.InBlock, Height: 3, Txs: []api.Tx{old}})
		if _, _, open := x.n.Channel(9); open {
			t.Error("open")
		}
		if s, _, _ := x.n.Payment(i.Secret); s != api.PayFailed {
			t.Error("Payment", signed, s)
		}
		x.wantReason(a, 0, api.ReasonNext, 1, 2)
		if !x.n.Idle() {
			t.Error("something is left")
		}
		// What node 1 has there is its own at once.
		if len(out.Txs) != 1 || out.Txs[0].Ins[0].Ref != (api.Ref{Tx: chain.Id(old), Out: 1}) || out.Txs[0].Outs[0].Amount != 1000-2 {
			t.Error("claims", out.Txs)
		}
	}
}

// P2: a payee whose channel is closed does not show what pays an invoice that is not paid whole.
func TestPreimageIsNotShown(t *testing.T) {
	x := newCircle(t)
	a := x.pals[7]
	i := x.bill(1, api.InvoicePlain, 100)
	a.add(60, 40, i.Hash, x.packet(i.Hash, []int{1}, final(i, 60)))
	tx, _ := a.Close()
	for h := 3; h < 50; h++ {
		in := api.Input{Kind: api.InBlock, Height: h}
		if h == 3 {
			in.Txs = []api.Tx{tx}
		}
		for _, c := range on(t, x.n, in).Txs {
			for _, in := range c.Ins {
				if in.Secret != [32]byte{} {
					t.Fatal("a secret is shown at", h)
				}
			}
		}
	}
	// Another part on another channel makes it whole: then it is.
	x = newCircle(t)
	a = x.pals[7]
	i = x.bill(1, api.InvoicePlain, 100)
	a.add(60, 40, i.Hash, x.packet(i.Hash, []int{1}, final(i, 60)))
	tx, _ = a.Close()
	on(t, x.n, api.Input{Kind: api.InBlock, Height: 3, Txs: []api.Tx{tx}})
	x.pals[9].add(40, 40, i.Hash, x.packet(i.Hash, []int{1}, final(i, 40)))
	out := on(t, x.n, api.Input{Kind: api.InBlock, Height: 4})
	shown := 0
	for _, c := range out.Txs {
		if mac.Hash(c.Ins[0].Secret) == i.Hash && c.Ins[0].Ref == (api.Ref{Tx: chain.Id(tx), Out: 2}) {
			shown++
		}
	}
	if s, got := x.n.Invoice(i.Secret); shown != 1 || s != api.InvoiceSettled || got != 100 {
		t.Error("it is not claimed", shown, s, got)
	}
	if x.n.Idle() {
		t.Error("idle with something that is to be paid")
	}
	for _, c := range out.Txs {
		on(t, x.n, api.Input{Kind: api.InBlock, Height: 5, Txs: []api.Tx{c}})
	}
	if !x.n.Idle() {
		t.Error("something is left")
	}
}

// P24.6: Idle, where nothing is left but what is on the chain.
func TestIdleOnChain(t *testing.T) {
	x := newCircle(t)
	a, b := x.pals[7], x.pals[9]
	i := x.bill(1, api.InvoiceHold, 100)
	a.add(100, 40, i.Hash, x.packet(i.Hash, []int{1}, final(i, 100)))
	tx, _ := a.Close()
	on(t, x.n, api.Input{Kind: api.InBlock, Height: 3, Txs: []api.Tx{tx}})
	if x.n.Idle() {
		t.Error("idle with a part that is held")
	}
	// Nothing need be done that it fails.
	on(t, x.n, api.Input{Kind: api.InCancel, Secret: i.Secret})
	if !x.n.Idle() {
		t.Error("not idle")
	}
	x = newCircle(t)
	a, b = x.pals[7], x.pals[9]
	a.add(301, 40, hashOf(1), x.packet(hashOf(1), []int{1, 2}, next(300, 25)...))
	b.one(api.NoteAdd)
	first, _ := a.Close()
	second, _ := b.Close()
	on(t, x.n, api.Input{Kind: api.InBlock, Height: 3, Txs: []api.Tx{first, second}})
	if x.n.Idle() {
		t.Error("idle with something that was handed on")
	}
	// It is taken back.
	out := on(t, x.n, api.Input{Kind: api.InBlock, Height: 24})
	for _, c := range out.Txs {
		on(t, x.n, api.Input{Kind: api.InBlock, Height: 25, Txs: []api.Tx{c}})
	}
	if !x.n.Idle() {
		t.Error("not idle behind it")
	}
}

// P24.6: Idle, where something is new in a channel alone.
func TestIdleChannel(t *testing.T) {
	x := newCircle(t)
	a := x.pals[7]
	_, m, _ := a.Add(10, 40, hashOf(5), make([]byte, api.OnionSize))
	a.say(m)
	if x.n.Idle() {
		t.Error("idle with an update that is not signed")
	}
	a.sign()
	if !x.n.Idle() {
		t.Error("not idle behind it")
	}
}

// P24.5: what others closed is no way any more.
func TestOthersClose(t *testing.T) {
	x := newNet(t, 4, between(1, 0, 1, 1000, 0), between(2, 0, 2, 1000, 0), between(3, 1, 3, 1000, 0), between(4, 2, 3, 1000, 0))
	x.allUp()
	x.all()
	x.hand(1, api.Input{Kind: api.InClose, Number: 3})
	x.block()
	m := x.bill(3, api.InvoicePlain, 300, 50)
	x.pay(0, m, 9)
	x.all()
	x.wantPaid(0, m, 1)
	if l := x.nodes[0].Tries(m.invoice.Secret); len(l) != 1 {
		t.Error("tries", l)
	}
}

// P2, example 9: who publishes what was taken back loses all, HTLCs that were on their way too.
func TestRevoked(t *testing.T) {
	x := newNet(t, 3, between(1, 0, 1, 1000, 500), between(2, 1, 2, 1000, 500))
	x.allUp()
	x.all()
	first := x.bill(2, api.InvoiceHold, 300, 50)
	x.pay(0, first, 1)
	x.all()
	second := x.bill(2, api.InvoicePlain, 50, 50)
	x.pay(0, second, 1)
	x.all()
	x.wantPaid(0, second, 1)
	for k := len(x.old[2]) - 2; k >= 0; k-- {
		y := newNet(t, 3, between(1, 0, 1, 1000, 500), between(2, 1, 2, 1000, 500))
		y.allUp()
		y.all()
		for i := range 2 {
			y.bill(2, []int{api.InvoiceHold, api.InvoicePlain}[i], []int{300, 50}[i], 50)
			y.pay(0, y.made[i], 1)
			y.all()
		}
		if e := y.chain.Submit(y.old[2][k]); e != api.OK {
			t.Fatal("Submit", e)
		}
		y.calm(12)
		if y.onChain(2) != 0 || y.short(0)+y.short(1) > 0 || !y.quiet(2) {
			t.Error("commitment", k, "the cheat has", y.onChain(2), "others are short by", y.short(0), y.short(1))
		}
		// All that the channel had is node 1's, but for fees.
		if got := y.onChain(1); got < 1500-10 {
			t.Error("commitment", k, "node 1 has", got)
		}
		y.wantFailed(0, made{node: 2, invoice: y.made[0].invoice}, api.InvoiceCancelled)
	}
}
