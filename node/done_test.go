package node

import (
	"reflect"
	"testing"

	"tollhouse/api"
	"tollhouse/invoice"
	"tollhouse/mac"
	"tollhouse/secrets"
	"tollhouse/wire"
)

// P24.3: InUp, InDown, InStart.
func TestUpAndDown(t *testing.T) {
	two := func(c *api.Config) { c.Terms = append(c.Terms, between(3, 0, 1, 100, 100)) }
	x := lonely(t, two)
	out := on(t, x.n, api.Input{Kind: api.InUp, Peer: 0})
	l := msgs(t, out)
	if len(l) != 2 || l[0].Channel != 3 || l[1].Channel != 7 {
		t.Fatal("one MsgHello for each channel, in order", l)
	}
	for k, m := range l {
		want := api.Msg{Kind: api.MsgHello, Channel: m.Channel, Point: secrets.Point(Secrets(x.c.Seed, 1, m.Channel), 0)}
		if !reflect.DeepEqual(m, want) || out.Msgs[k].To != 0 {
			t.Error("MsgHello", m)
		}
	}
	for what, in := range map[string]api.Input{
		"twice":         {Kind: api.InUp, Peer: 0},
		"oneself":       {Kind: api.InUp, Peer: 1},
		"nobody":        {Kind: api.InUp, Peer: 5},
		"below 0":       {Kind: api.InUp, Peer: -1},
		"down of other": {Kind: api.InDown, Peer: 2},
	} {
		if out := wantAnswer(t, x.n, in, api.OK); len(out.Msgs) > 0 {
			t.Error(what, out.Msgs)
		}
	}
	// Down, and up again: all that were not up say so.
	on(t, x.n, api.Input{Kind: api.InDown, Peer: 0})
	if out := on(t, x.n, api.Input{Kind: api.InUp, Peer: 0}); len(out.Msgs) != 2 {
		t.Error("up again", out.Msgs)
	}
	if out := on(t, x.n, api.Input{Kind: api.InStart}); len(out.Msgs) > 0 {
		t.Error("InStart says", out.Msgs)
	}
	if out := on(t, x.n, api.Input{Kind: api.InUp, Peer: 0}); len(out.Msgs) != 2 {
		t.Error("up behind InStart", out.Msgs)
	}
	on(t, x.n, api.Input{Kind: api.InClose, Number: 3})
	on(t, x.n, api.Input{Kind: api.InStart})
	if l := msgs(t, on(t, x.n, api.Input{Kind: api.InUp, Peer: 0})); len(l) != 1 || l[0].Channel != 7 {
		t.Error("up of a closed one", l)
	}
}

// hello is the MsgHello of the other one of a channel.
func (x *circle) hello(number int) []byte {
	x.t.Helper()
	m, e := x.pals[number].Up()
	if e != api.OK {
		x.t.Fatal("Up", e)
	}
	b, _ := wire.Encode(m)
	return b
}

// P24.3: InMsg: what is refused, and what goes ahead.
func TestMsg(t *testing.T) {
	x := lonely(t)
	hello := x.hello(7)
	m, _ := wire.Decode(hello)
	m.Channel = 8
	other, _ := wire.Encode(m)
	wantAnswer(t, x.n, api.Input{Kind: api.InMsg, Peer: 0, Bytes: []byte("x")}, api.ErrCode)
	wantAnswer(t, x.n, api.Input{Kind: api.InMsg, Peer: 0}, api.ErrCode)
	wantAnswer(t, x.n, api.Input{Kind: api.InMsg, Peer: 0, Bytes: other}, api.ErrNone)
	wantAnswer(t, x.n, api.Input{Kind: api.InMsg, Peer: 2, Bytes: hello}, api.ErrNone)
	wantAnswer(t, x.n, api.Input{Kind: api.InMsg, Peer: 0, Bytes: hello}, api.ErrDown)
	on(t, x.n, api.Input{Kind: api.InUp, Peer: 0})
	wantAnswer(t, x.n, api.Input{Kind: api.InMsg, Peer: 0, Bytes: hello}, api.OK)
	// A second one breaks the channel: it is closed.
	out := wantAnswer(t, x.n, api.Input{Kind: api.InMsg, Peer: 0, Bytes: hello}, api.ErrClash)
	tx, e := x.n.Close(7)
	if e != api.OK || len(out.Txs) != 1 || !reflect.DeepEqual(out.Txs[0], tx) {
		t.Error("its commitment is not published", out.Txs, e)
	}
	if _, _, open := x.n.Channel(7); open {
		t.Error("it is open")
	}
	wantAnswer(t, x.n, api.Input{Kind: api.InMsg, Peer: 0, Bytes: hello}, api.ErrNone)
	for h := 1; h < 4; h++ {
		if out := wantAnswer(t, x.n, api.Input{Kind: api.InBlock, Height: h}, api.OK); len(out.Txs) != 1 || !reflect.DeepEqual(out.Txs[0], tx) {
			t.Error("not published again", out.Txs)
		}
	}
	if out := on(t, x.n, api.Input{Kind: api.InTick}); len(out.Txs) > 0 {
		t.Error("published at a tick", out.Txs)
	}
	out = wantAnswer(t, x.n, api.Input{Kind: api.InBlock, Height: 5, Txs: []api.Tx{tx}}, api.OK)
	if len(out.Txs) > 0 {
		t.Error("published though its money is spent", out.Txs)
	}
}

// P24.3: InBlock.
func TestBlock(t *testing.T) {
	x := lonely(t)
	for _, c := range []struct {
		height int
		want   api.Errno
		is     int
	}{{-1, api.ErrArg, 0}, {0, api.OK, 0}, {5, api.OK, 5}, {5, api.OK, 5}, {4, api.ErrArg, 5}, {api.MaxExpiry + 1, api.ErrArg, 5}, {api.MaxExpiry, api.OK, api.MaxExpiry}, {5, api.ErrArg, api.MaxExpiry}} {
		wantAnswer(t, x.n, api.Input{Kind: api.InBlock, Height: c.height}, c.want)
		if x.n.Height() != c.is {
			t.Error("Height", x.n.Height(), "not", c.is)
		}
	}
	// Beside an error transactions do nothing.
	tx, _ := x.n.Close(7)
	wantAnswer(t, x.n, api.Input{Kind: api.InBlock, Height: 5, Txs: []api.Tx{tx}}, api.ErrArg)
	if _, _, open := x.n.Channel(7); !open {
		t.Error("closed beside an error")
	}
}

// P24.3: InInvoice.
func TestInvoice(t *testing.T) {
	x := lonely(t)
	var all []api.Invoice
	seen := map[[32]byte]int{}
	for n, kind := range []int{api.InvoicePlain, api.InvoiceHold, api.InvoiceSet, api.InvoiceSet} {
		in := api.Input{Kind: api.InInvoice, Number: kind, Amount: 100 + n, Expiry: 50 + n, Text: "jam", Secret: preimage(n), Hash: hashOf(n + 10)}
		out := wantAnswer(t, x.n, in, api.OK)
		i, e := invoice.Decode(out.Text)
		want := api.Invoice{Node: 1, Kind: kind, Amount: 100 + n, Expiry: 50 + n, Text: "jam", Secret: i.Secret}
		switch kind {
		case api.InvoicePlain:
			want.Hash = hashOf(n)
		case api.InvoiceHold:
			want.Hash = hashOf(n + 10)
		}
		if e != api.OK || i != want || len(out.Msgs)+len(out.Txs) > 0 {
			t.Error("kind", kind, i, e)
		}
		// Who may pay it must not know what pays it, nor be able to pay another one.
		if i.Secret == preimage(n) || i.Secret == i.Hash || seen[i.Secret] > 0 {
			t.Error("its Secret", i.Secret)
		}
		seen[i.Secret]++
		if s, got := x.n.Invoice(i.Secret); s != api.InvoiceOpen || got != 0 {
			t.Error("state", s, got)
		}
		all = append(all, i)
	}
	if !reflect.DeepEqual(x.n.Invoices(), all) {
		t.Error("Invoices", x.n.Invoices())
	}
	// What pays them is nobody's to know till they are paid.
	for _, hash := range [][32]byte{hashOf(0), hashOf(1), hashOf(2), hashOf(11), {}} {
		if secret, ok := x.n.Known(hash); ok || secret != [32]byte{} {
			t.Error("something is Known")
		}
	}
	for what, c := range map[string]struct {
		in   api.Input
		want api.Errno
	}{
		"no kind":      {api.Input{Amount: 1}, api.ErrArg},
		"no such kind": {api.Input{Number: 4, Amount: 1}, api.ErrArg},
		"no amount":    {api.Input{Number: 1}, api.ErrArg},
		"too much":     {api.Input{Number: 1, Amount: api.MaxInvoice + 1}, api.ErrArg},
		"no hash":      {api.Input{Number: 2, Amount: 1}, api.ErrArg},
		"a long text":  {api.Input{Number: 1, Amount: 1, Text: string(make([]byte, 65))}, api.ErrArg},
		"an expiry":    {api.Input{Number: 1, Amount: 1, Expiry: -1}, api.ErrArg},
		"twice":        {api.Input{Number: 1, Amount: 1, Secret: preimage(0)}, api.ErrTwice},
		"twice held":   {api.Input{Number: 2, Amount: 1, Hash: hashOf(11)}, api.ErrTwice},
	} {
		c.in.Kind = api.InInvoice
		out := wantAnswer(t, x.n, c.in, c.want)
		if out.Text != "" || len(x.n.Invoices()) != len(all) {
			t.Error(what, out.Text)
		}
	}
	for n := len(all); n < api.MaxInvoices; n++ {
		wantAnswer(t, x.n, api.Input{Kind: api.InInvoice, Number: 1, Amount: 1, Secret: preimage(100 + n)}, api.OK)
	}
	wantAnswer(t, x.n, api.Input{Kind: api.InInvoice, Number: 1, Amount: 1, Secret: preimage(99)}, api.ErrFull)
	if _, ok := x.n.Known(hashOf(99)); ok {
		t.Error("Known of an invoice that was refused")
	}
}

// billOf is the text of an invoice of node 2.
func billOf(t *testing.T, n, kind, sum int) (api.Invoice, string) {
	t.Helper()
	i := api.Invoice{Node: 2, Kind: kind, Secret: [32]byte{byte(n), 1}, Amount: sum, Expiry: 90}
	if kind != api.InvoiceSet {
		i.Hash = hashOf(n)
	}
	text, e := invoice.Encode(i)
	if e != api.OK {
		t.Fatal("Encode", e)
	}
	return i, text
}

// P24.3: InPay.
func TestPay(t *testing.T) {
	x := newCircle(t)
	b := x.pals[9]
	i, text := billOf(t, 1, api.InvoicePlain, 100)
	wantAnswer(t, x.n, api.Input{Kind: api.InPay, Text: "th1"}, api.ErrCode)
	wantAnswer(t, x.n, api.Input{Kind: api.InPay, Text: text[:len(text)-1] + "q"}, api.ErrSum)
	wantAnswer(t, x.n, api.Input{Kind: api.InPay, Text: text, Amount: -1}, api.ErrArg)
	own := x.bill(9, api.InvoicePlain, 10)
	mine, _ := invoice.Encode(own)
	wantAnswer(t, x.n, api.Input{Kind: api.InPay, Text: mine}, api.ErrArg)
	_, dear := billOf(t, 2, api.InvoicePlain, 1000)
	out := wantAnswer(t, x.n, api.Input{Kind: api.InPay, Text: dear}, api.ErrNone)
	if s, _, _ := x.n.Payment([32]byte{2, 1}); s != api.PayFailed || len(out.Msgs) > 0 {
		t.Error("too much", s)
	}
	out = x.hand(api.Input{Kind: api.InPay, Text: text})
	if kinds := kindsOf(t, out); out.Answer != api.OK || !reflect.DeepEqual(kinds, []int{api.MsgAdd, api.MsgSign}) {
		t.Error("InPay says", kinds, out.Answer)
	}
	wantAnswer(t, x.n, api.Input{Kind: api.InPay, Text: text}, api.ErrTwice)
	n := b.one(api.NoteAdd)
	if n.Amount != 100 || n.Hash != i.Hash || n.Expiry != api.LastDelta {
		t.Error("the HTLC", n)
	}
	if x.n.Idle() {
		t.Error("idle while something is flying")
	}
	b.fulfil(n.Id, preimage(1))
	if s, paid, fees := x.n.Payment(i.Secret); s != api.PayDone || paid != 100 || fees != 0 {
		t.Error("Payment", s, paid, fees)
	}
	b.sign()
	if l := x.n.Tries(i.Secret); len(l) != 1 || l[0].State != api.TryPaid || l[0].Secret != preimage(1) || !x.n.Idle() {
		t.Error("Tries", l)
	}
	x.height(91)
	_, text = billOf(t, 3, api.InvoicePlain, 100)
	wantAnswer(t, x.n, api.Input{Kind: api.InPay, Text: text}, api.ErrState)
	if l := x.n.Payments(); !reflect.DeepEqual(l, [][32]byte{{2, 1}, i.Secret}) {
		t.Error("Payments", l)
	}
}

// P24.3: a payment whose try fails is tried again where that helps, and its payer learns of it.
func TestPayAgain(t *testing.T) {
	// Two channels of node 0 to node 1, and two from there to node 2, of which the first has nothing on that side.
	x := newNet(t, 3, between(1, 0, 1, 1000, 0), between(2, 1, 2, 1, 999), between(3, 1, 2, 1000, 0))
	x.allUp()
	x.all()
	m := x.bill(2, api.InvoicePlain, 300, 50)
	x.pay(0, m, 9)
	x.all()
	x.wantPaid(0, m, 1)
	l := x.nodes[0].Tries(m.invoice.Secret)
	if len(l) != 2 || l[0].Way.Edges[1].Channel != 2 || l[0].State != api.TryFailed || l[1].Way.Edges[1].Channel != 3 {
		t.Error("tries", l)
	}
	// What is learnt is known for the next one.
	m = x.bill(2, api.InvoiceSet, 300, 50)
	x.pay(0, m, 9)
	x.all()
	x.wantPaid(0, m, 1)
	if l := x.nodes[0].Tries(m.invoice.Secret); len(l) != 1 {
		t.Error("nothing was learnt", l)
	}
	x.wantIdle()
}

// P24.3: with nobody there a payment fails.
func TestPayNobody(t *testing.T) {
	x := lonely(t)
	i, text := billOf(t, 1, api.InvoicePlain, 100)
	wantAnswer(t, x.n, api.Input{Kind: api.InPay, Text: text}, api.OK)
	if s, paid, _ := x.n.Payment(i.Secret); s != api.PayFailed || paid != 0 || !x.n.Idle() {
		t.Error("Payment", s, paid)
	}
	// Who is there, but did not say so yet, is waited for.
	on(t, x.n, api.Input{Kind: api.InUp, Peer: 2})
	i, text = billOf(t, 2, api.InvoicePlain, 100)
	wantAnswer(t, x.n, api.Input{Kind: api.InPay, Text: text}, api.OK)
	if s, _, _ := x.n.Payment(i.Secret); s != api.PayOpen || x.n.Idle() {
		t.Error("Payment", s)
	}
	out := on(t, x.n, api.Input{Kind: api.InMsg, Peer: 2, Bytes: x.hello(9)})
	if kinds := kindsOf(t, out); !reflect.DeepEqual(kinds, []int{api.MsgAdd, api.MsgSign}) {
		t.Error("said", kinds)
	}
	// But not for ever.
	for _, byHeight := range []bool{false, true} {
		x = lonely(t)
		on(t, x.n, api.Input{Kind: api.InUp, Peer: 2})
		wantAnswer(t, x.n, api.Input{Kind: api.InPay, Text: text}, api.OK)
		for k := range x.c.Wait {
			if s, _, _ := x.n.Payment(i.Secret); s != api.PayOpen {
				t.Error("Payment", k, s)
			}
			if !byHeight {
				on(t, x.n, api.Input{Kind: api.InTick})
			}
		}
		if byHeight {
			on(t, x.n, api.Input{Kind: api.InBlock, Height: 91})
		}
		if s, _, _ := x.n.Payment(i.Secret); s != api.PayFailed || !x.n.Idle() {
			t.Error("Payment", byHeight, s)
		}
	}
}

// P24.3: of the ways that there are one is taken whose first node is there.
func TestPayWhoIsThere(t *testing.T) {
	x := newNet(t, 4, between(1, 0, 1, 1000, 0), between(2, 0, 2, 1000, 0), between(3, 1, 3, 1000, 0), between(4, 2, 3, 1000, 0))
	x.up(0, 2)
	x.up(1, 3)
	x.up(2, 3)
	x.all()
	m := x.bill(3, api.InvoicePlain, 300, 50)
	if e := x.pay(0, m, 1); e != api.OK {
		t.Fatal("InPay", e)
	}
	x.all()
	x.wantPaid(0, m, 1)
	if l := x.nodes[0].Tries(m.invoice.Secret); len(l) != 1 || l[0].Way.Edges[0].Channel != 2 {
		t.Error("tries", l)
	}
}

// P24.3: what would be refused by the node's own channels is not tried.
func TestPayByRoom(t *testing.T) {
	for what, change := range map[string]func(t *api.Terms){
		"reserve": func(t *api.Terms) { t.StartA, t.Reserve = 161, 100 },
		"fee":     func(t *api.Terms) { t.StartA, t.Fee = 99, 39 },
		"flight":  func(t *api.Terms) { t.Flight = 60 },
	} {
		terms := []api.Terms{between(1, 0, 1, 1000, 0), between(2, 0, 1, 1000, 0)}
		for k := range terms {
			change(&terms[k])
		}
		x := newNet(t, 2, terms...)
		x.allUp()
		x.all()
		m := x.bill(1, api.InvoicePlain, 100, 50)
		x.pay(0, m, 0)
		x.all()
		x.wantPaid(0, m, 0)
		if l := x.nodes[0].Tries(m.invoice.Secret); len(l) != 2 {
			t.Error(what, "tries", len(l))
		}
	}
	// A channel whose slots are taken; and what is on its way, signed or not, is not there any more.
	terms := []api.Terms{between(1, 0, 1, 1000, 0), between(2, 0, 1, 1000, 0)}
	terms[0].Slots = 1
	x := newNet(t, 2, terms...)
	x.allUp()
	x.all()
	for k, sum := range []int{700, 100, 600, 299, 1} {
		m := x.bill(1, api.InvoiceHold, sum, 50)
		e := x.pay(0, m, 0)
		l := x.nodes[0].Tries(m.invoice.Secret)
		if k == 4 {
			wantErr(t, "more than is left", e, api.ErrNone)
		} else if len(l) != 1 || l[0].State != api.TryFlying || l[0].Way.Edges[0].Channel != min(2, k+1) {
			t.Error("of", sum, l)
		}
	}
	x.all()
	if p := x.nodes[1].Purse(); p.In != 1699 {
		t.Error("Purse", p)
	}
}

// P3: what failed once does not rule a way out for the next payment, also at the same tick.
func TestPayNext(t *testing.T) {
	x := newNet(t, 3, between(1, 0, 1, 1000, 0), between(2, 1, 2, 1000, 0))
	x.up(0, 1)
	x.all()
	m := x.bill(2, api.InvoicePlain, 300, 50)
	x.pay(0, m, 1)
	x.all()
	x.wantFailed(0, m, api.InvoiceOpen)
	if l := x.nodes[0].Tries(m.invoice.Secret); len(l) != 1 {
		t.Error("the same way was tried again", len(l))
	}
	x.up(1, 2)
	x.all()
	m = x.bill(2, api.InvoicePlain, 300, 50)
	x.pay(0, m, 1)
	x.all()
	x.wantPaid(0, m, 1)
}

// P24.3: InClose.
func TestInClose(t *testing.T) {
	x := newCircle(t)
	wantAnswer(t, x.n, api.Input{Kind: api.InClose, Number: 8}, api.ErrNone)
	wantAnswer(t, x.n, api.Input{Kind: api.InClose, Number: 0}, api.ErrNone)
	want, _ := x.n.Close(9)
	for range 2 {
		out := wantAnswer(t, x.n, api.Input{Kind: api.InClose, Number: 9}, api.OK)
		if len(out.Txs) != 1 || !reflect.DeepEqual(out.Txs[0], want) {
			t.Error("published", out.Txs)
		}
	}
	if _, _, open := x.n.Channel(9); open {
		t.Error("it is open")
	}
	if _, _, open := x.n.Channel(7); !open {
		t.Error("the other one is not")
	}
	if p := x.n.Purse(); p.Open != 1500 {
		t.Error("its money is not spent yet", p)
	}
	out := wantAnswer(t, x.n, api.Input{Kind: api.InBlock, Height: 3, Txs: []api.Tx{want}}, api.OK)
	if len(out.Txs) > 0 {
		t.Error("claimed ahead of the delay", out.Txs)
	}
	wantAnswer(t, x.n, api.Input{Kind: api.InClose, Number: 9}, api.ErrTwice)
	if p := x.n.Purse(); p.Open != 500 {
		t.Error("its money is spent", p)
	}
	// Its own output, Delay blocks behind.
	for h := 3; h < 9; h++ {
		out := on(t, x.n, api.Input{Kind: api.InBlock, Height: h})
		if (len(out.Txs) == 1) != (h >= 5) {
			t.Error("claims at", h, out.Txs)
		}
	}
}

// P24.4, example 7: what was never signed is gone, and tried anew when its channel is ready.
func TestDropped(t *testing.T) {
	for _, crash := range []bool{false, true} {
		x := newCircle(t)
		a, b := x.pals[7], x.pals[9]
		// A first HTLC is signed, and node 2 does not answer: what comes behind it cannot be signed.
		b.deaf = true
		i, text := billOf(t, 1, api.InvoicePlain, 100)
		x.hand(api.Input{Kind: api.InPay, Text: text})
		j, text := billOf(t, 2, api.InvoicePlain, 50)
		out := x.hand(api.Input{Kind: api.InPay, Text: text})
		if kinds := kindsOf(t, out); !reflect.DeepEqual(kinds, []int{api.MsgAdd}) {
			t.Fatal("said", kinds)
		}
		a.add(31, 40, hashOf(3), x.packet(hashOf(3), []int{1, 2}, next(30, 25)...))
		b.deaf = false
		if crash {
			var e api.Errno
			if x.n, e = Open(x.c, x.f); e != api.OK {
				t.Fatal("Open", e)
			}
		} else {
			x.hand(api.Input{Kind: api.InDown, Peer: 2})
		}
		for _, id := range [][32]byte{i.Secret, j.Secret} {
			if s, _, _ := x.n.Payment(id); s != api.PayOpen {
				t.Error("Payment", s)
			}
		}
		x.hand(api.Input{Kind: api.InUp, Peer: 2})
		l := b.take(api.NoteAdd)
		if len(l) != 3 || l[0].Amount != 100 || l[1].Amount != 50 || l[2].Amount != 30 {
			t.Fatal("tried anew", len(l), l)
		}
		for k, n := range l {
			b.fulfil(n.Id, preimage(k+1))
		}
		b.sign()
		x.hand(api.Input{Kind: api.InUp, Peer: 0})
		if n := a.take(api.NotePaid); len(n) == 0 || n[0].Secret != preimage(3) {
			t.Error("handed on", n)
		}
		for _, id := range [][32]byte{i.Secret, j.Secret} {
			if s, _, _ := x.n.Payment(id); s != api.PayDone || len(x.n.Tries(id)) != 1 {
				t.Error("Payment", s)
			}
		}
		if !x.n.Idle() {
			t.Error("something is left")
		}
	}
}

// What was dropped does not wait for ever: not longer than a set, nor for a channel that is closed, nor when it expires.
func TestDroppedForGood(t *testing.T) {
	for what, end := range map[string]func(x *circle){
		"ticks": func(x *circle) {
			for range x.c.Wait {
				x.hand(api.Input{Kind: api.InTick})
			}
		},
		"closed":  func(x *circle) { x.hand(api.Input{Kind: api.InClose, Number: 9}) },
		"expired": func(x *circle) { x.height(19); x.height(30) },
	} {
		x := newCircle(t, func(c *api.Config) { c.Margin = 100 })
		a, b := x.pals[7], x.pals[9]
		x.pay9(20)
		// A change that node 2 does not answer.
		b.deaf = true
		_, text := billOf(t, 1, api.InvoicePlain, 100)
		x.hand(api.Input{Kind: api.InPay, Text: text})
		j, text := billOf(t, 2, api.InvoicePlain, 50)
		x.hand(api.Input{Kind: api.InPay, Text: text})
		a.add(31, 40, hashOf(3), x.packet(hashOf(3), []int{1, 2}, next(30, 25)...))
		x.hand(api.Input{Kind: api.InDown, Peer: 2})
		a.none(api.NoteFailed)
		end(x)
		want := api.ReasonNext
		if what == "expired" {
			want = api.ReasonSoon
		}
		x.wantReason(a, 0, want, 1, 2)
		if s, _, _ := x.n.Payment(j.Secret); s != api.PayFailed {
			t.Error(what, "Payment", s)
		}
		b.none(api.NoteAdd)
	}
}

// What waits to be handed on is failed when the channel from which it came is closed.
func TestDroppedAndClosed(t *testing.T) {
	x := newCircle(t)
	a, b := x.pals[7], x.pals[9]
	b.deaf = true
	_, text := billOf(t, 1, api.InvoicePlain, 100)
	x.hand(api.Input{Kind: api.InPay, Text: text})
	a.add(31, 40, hashOf(3), x.packet(hashOf(3), []int{1, 2}, next(30, 25)...))
	x.hand(api.Input{Kind: api.InDown, Peer: 2})
	x.hand(api.Input{Kind: api.InClose, Number: 7})
	b.deaf = false
	x.hand(api.Input{Kind: api.InUp, Peer: 2})
	if l := b.take(api.NoteAdd); len(l) != 1 || l[0].Amount != 100 {
		t.Error("handed on", l)
	}
}

// P24.3: over a channel that is open no more nothing is said.
func TestClosedIsSilent(t *testing.T) {
	x := newCircle(t)
	a := x.pals[7]
	i := x.bill(1, api.InvoiceHold, 100)
	a.add(100, 40, i.Hash, x.packet(i.Hash, []int{1}, final(i, 100)))
	// Something is there to be signed.
	x.deaf = true
	_, m, e := a.Add(10, 40, hashOf(5), make([]byte, api.OnionSize))
	if e != api.OK {
		t.Fatal("Add", e)
	}
	a.say(m)
	sign, _ := a.Channel.Sign()
	b, _ := wire.Encode(sign)
	x.hand(api.Input{Kind: api.InClose, Number: 7})
	wantAnswer(t, x.n, api.Input{Kind: api.InMsg, Peer: 0, Bytes: b}, api.ErrNone)
	for _, in := range []api.Input{{Kind: api.InSettle, Hash: i.Hash, Secret: preimage(1)}, {Kind: api.InTick}, {Kind: api.InBlock, Height: 1}, {Kind: api.InUp, Peer: 0}} {
		if out := wantAnswer(t, x.n, in, api.OK); len(out.Msgs) > 0 {
			t.Error("said", kindsOf(t, out))
		}
	}
}

// Secrets of one's own are of no use to others: two nets have others.
func TestSeeds(t *testing.T) {
	x := lonely(t)
	y := lonely(t, func(c *api.Config) { c.Seed[3] = 1 })
	in := api.Input{Kind: api.InInvoice, Number: api.InvoiceSet, Amount: 10, Expiry: 50}
	i, _ := invoice.Decode(on(t, x.n, in).Text)
	j, _ := invoice.Decode(on(t, y.n, in).Text)
	if i.Secret == j.Secret || i.Secret == mac.Hash(j.Secret) {
		t.Error("they have the same Secret")
	}
}
