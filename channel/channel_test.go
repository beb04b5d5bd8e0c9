package channel

import (
	"reflect"
	"testing"

	"tollhouse/api"
	"tollhouse/chain"
	"tollhouse/deal"
	"tollhouse/mac"
	"tollhouse/secrets"
	"tollhouse/updates"
)

// P16.1: who may have a channel.
func TestNew(t *testing.T) {
	for name, change := range map[string]func(d *api.Terms, p *api.Party){
		"no terms":        func(d *api.Terms, p *api.Party) { *d = api.Terms{} },
		"no Slots":        func(d *api.Terms, p *api.Party) { d.Slots = 0 },
		"Node 0":          func(d *api.Terms, p *api.Party) { p.Node = 0 },
		"Node -1":         func(d *api.Terms, p *api.Party) { p.Node = -1 },
		"Node between":    func(d *api.Terms, p *api.Party) { p.Node = 2 },
		"no first point":  func(d *api.Terms, p *api.Party) { p.Points[0] = [32]byte{} },
		"no second point": func(d *api.Terms, p *api.Party) { p.Points[1] = [32]byte{} },
	} {
		d, p := terms(), party(0)
		change(&d, &p)
		if c, e := New(d, p); e != api.ErrArg || c != nil {
			t.Error(name, c, e)
		}
	}
	for i, node := range nodes {
		c, e := New(terms(), party(i))
		if e != api.OK || c.Ready() || c.Broken() || !c.Idle() || c.Terms() != terms() || c.Peer() != nodes[1-i] {
			t.Fatal("New for", node, e)
		}
		start := api.View{A: 1000, B: 500}
		x, _ := deal.Commit(terms(), node, secrets.Point(seedOf(i), 0), start)
		id := chain.Id(x)
		if s, v := c.Own(); s != (api.Signed{Tag: mac.Tag(keyOf(1-i), "tx", id[:])}) || !sameView(v, start) {
			t.Error("Own", s, v)
		}
		if s, v := c.Others(); s != (api.Signed{}) || !sameView(v, start) {
			t.Error("Others", s, v)
		}
		if s, v, ok := c.Pending(); ok || s != (api.Signed{}) || !sameView(v, api.View{}) {
			t.Error("Pending", s, v, ok)
		}
	}
	d := terms()
	d.A, d.B = 0, 7
	for node, peer := range map[int]int{0: 7, 7: 0} {
		if c, e := New(d, api.Party{Node: node, Points: party(0).Points}); e != api.OK || c.Peer() != peer {
			t.Error("the first and the last node", node, e)
		}
	}
	// Keys and seeds may be anything.
	if _, e := New(terms(), api.Party{Node: 4, Points: party(1).Points}); e != api.OK {
		t.Error("keys of zeros", e)
	}
}

// P16.1: Up says where one is.
func TestUp(t *testing.T) {
	p := newPair(t)
	m, e := p.c[0].Up()
	if want := (api.Msg{Kind: api.MsgHello, Channel: 3, Point: secrets.Point(seedOf(0), 0)}); e != api.OK || !sameMsg(m, want) {
		t.Error("Up", m, e)
	}
	if m, e := p.c[0].Up(); e != api.ErrTwice || !sameMsg(m, api.Msg{}) || p.c[0].Ready() {
		t.Error("Up again", m, e)
	}
	if l, n, e := p.c[0].On(api.Msg{Kind: api.MsgHello, Channel: 3}); e != api.OK || len(l)+len(n) != 0 || !p.c[0].Ready() {
		t.Error("a MsgHello", l, n, e)
	}
	if _, e := p.c[0].Up(); e != api.ErrTwice || !p.c[0].Ready() {
		t.Error("Up when ready", e)
	}
	if n := p.c[0].Down(); len(n) != 0 || p.c[0].Ready() {
		t.Error("Down", n)
	}
	p.lose()
	p.meet()
	p.calm()
	p.add(0, 100, 1)
	p.calm()
	p.sign(0)
	p.hear(1)
	p.lose()
	// B has commitment 1; A did not hear that commitment 0 was taken back.
	for i, want := range []api.Msg{
		{Kind: api.MsgHello, Channel: 3, Number: 0, Told: 0, Point: secrets.Point(seedOf(0), 0)},
		{Kind: api.MsgHello, Channel: 3, Number: 1, Told: 0, Point: secrets.Point(seedOf(1), 1)},
	} {
		if m, e := p.c[i].Up(); e != api.OK || !sameMsg(m, want) || p.c[i].Ready() {
			t.Error("Up behind a commitment", i, m, e)
		}
	}
}

// P16.1: Down takes away what no commitment has.
func TestDown(t *testing.T) {
	p := readyPair(t)
	p.add(0, 100, 1)
	p.agree()
	p.add(0, 10, 2)
	p.calm()
	p.sign(0) // never heard
	p.add(0, 20, 3)
	p.fail(1, 0)
	p.add(1, 30, 4)
	p.add(0, 21, 5)
	p.hear(0)
	p.notes = [2][]api.Note{}
	p.lose()
	p.noted("what A did not sign", 0, droppedNote(2, 20, 3), droppedNote(3, 21, 5))
	p.noted("what B did not sign", 1, droppedNote(0, 30, 4))
	if len(p.c[0].own) != 2 || len(p.c[0].others) != 0 || len(p.c[1].own) != 0 || len(p.c[1].others) != 1 {
		t.Error("what is left", len(p.c[0].own), len(p.c[0].others), len(p.c[1].own), len(p.c[1].others))
	}
	if p.c[1].Settled(0) {
		t.Error("the MsgFail is gone")
	}
	for i, c := range p.c {
		if n := c.Down(); len(n) != 0 {
			t.Error("Down again", i, n)
		}
	}
	p.meet()
	p.calm()
	if id := p.add(0, 20, 3); id != 2 {
		t.Error("Ids go on behind what is left", id)
	}
	if id := p.add(1, 30, 4); id != 0 {
		t.Error("B's", id)
	}
	p.fail(1, 0)
	p.agree()
	p.has("tried anew", 0, 970, 470, 3)
}

// P16.2: what is refused while nobody hears.
func TestSendDown(t *testing.T) {
	p := newPair(t)
	ask := func(name string, want api.Errno) {
		t.Helper()
		if id, m, e := p.c[0].Add(-1, -1, [32]byte{}, nil); id != 0 || !sameMsg(m, api.Msg{}) || e != want {
			t.Error(name, "Add", id, m, e)
		}
		if m, e := p.c[0].Fulfil(-1, [32]byte{}); !sameMsg(m, api.Msg{}) || e != want {
			t.Error(name, "Fulfil", m, e)
		}
		if m, e := p.c[0].Fail(-1, make([]byte, 999)); !sameMsg(m, api.Msg{}) || e != want {
			t.Error(name, "Fail", m, e)
		}
		if m, ok := p.c[0].Sign(); ok || !sameMsg(m, api.Msg{}) {
			t.Error(name, "Sign", m, ok)
		}
	}
	ask("down", api.ErrDown)
	p.meet()
	ask("up", api.ErrDown)
	p.calm()
	p.add(0, 1, 1)
	p.lose()
	ask("down again", api.ErrDown)
	p.meet()
	p.calm()
	p.add(0, 1, 1)
	if _, _, e := p.c[0].On(api.Msg{Kind: api.MsgHello, Channel: 3}); e != api.ErrClash {
		t.Fatal("a second MsgHello", e)
	}
	ask("broken", api.ErrBroken)
	if m, e := p.c[0].Up(); e != api.ErrBroken || !sameMsg(m, api.Msg{}) {
		t.Error("Up", m, e)
	}
	if n := p.c[0].Down(); !sameNotes(n, []api.Note{droppedNote(0, 1, 1)}) || p.c[0].Ready() || !p.c[0].Broken() {
		t.Error("Down", n)
	}
	ask("broken and down", api.ErrBroken)
	if _, e := p.c[0].Up(); e != api.ErrBroken {
		t.Error("Up when down", e)
	}
	if l, n, e := p.c[0].On(api.Msg{}); len(l)+len(n) != 0 || e != api.ErrBroken {
		t.Error("On", l, n, e)
	}
}

// P16.2: Add, by what updates.May says.
func TestAdd(t *testing.T) {
	p := readyPair(t)
	id, m, e := p.c[0].Add(200, 40, hashOf(1), onionOf(1))
	want := api.Msg{Kind: api.MsgAdd, Channel: 3, Id: 0, Amount: 200, Expiry: 40, Hash: hashOf(1), Onion: onionOf(1)}
	if e != api.OK || id != 0 || !sameMsg(m, want) {
		t.Error("Add", id, m, e)
	}
	id, m, e = p.c[0].Add(1, 0, hashOf(1), onionOf(2))
	if e != api.OK || id != 1 || m.Id != 1 {
		t.Error("the second one", id, m.Id, e)
	}
	for name, c := range map[string]struct {
		sum, expiry int
		hash        [32]byte
		onion       []byte
		want        api.Errno
	}{
		"nothing":         {0, 1, hashOf(1), onionOf(1), api.ErrArg},
		"below":           {-1, 1, hashOf(1), onionOf(1), api.ErrArg},
		"Expiry":          {1, api.MaxExpiry + 1, hashOf(1), onionOf(1), api.ErrArg},
		"Expiry below":    {1, -1, hashOf(1), onionOf(1), api.ErrArg},
		"Hash":            {1, 1, [32]byte{}, onionOf(1), api.ErrArg},
		"a short Onion":   {1, 1, hashOf(1), onionOf(1)[1:], api.ErrArg},
		"no Onion":        {1, 1, hashOf(1), nil, api.ErrArg},
		"Flight":          {700, 1, hashOf(1), onionOf(1), api.ErrFlight},
		"all of Flight":   {699, 1, hashOf(1), onionOf(1), api.OK},
		"the last Expiry": {699, api.MaxExpiry, hashOf(1), onionOf(1), api.OK},
	} {
		c1 := readyPair(t)
		c1.add(0, 200, 1)
		c1.add(0, 1, 1)
		if id, m, e := c1.c[0].Add(c.sum, c.expiry, c.hash, c.onion); e != c.want || e != api.OK && (id != 0 || !sameMsg(m, api.Msg{}) || len(c1.c[0].own) != 2) {
			t.Error(name, id, e)
		}
	}
	q := readyPair(t, func(d *api.Terms) { d.Slots = 1 })
	q.add(1, 490, 1)
	if _, _, e := q.c[1].Add(1, 1, hashOf(1), onionOf(1)); e != api.ErrSlots {
		t.Error("Slots", e)
	}
	q = readyPair(t)
	if _, _, e := q.c[1].Add(491, 1, hashOf(1), onionOf(1)); e != api.ErrReserve {
		t.Error("Reserve", e)
	}
}

// P16.2: of the others' updates Add counts on those alone that one's commitment has.
func TestAddCounts(t *testing.T) {
	p := readyPair(t, func(d *api.Terms) { d.Slots = 1 })
	p.add(0, 100, 1)
	p.agree()
	p.fail(1, 0)
	p.calm()
	refused := func(name string) {
		t.Helper()
		if _, _, e := p.c[0].Add(1, 1, hashOf(1), onionOf(1)); e != api.ErrSlots {
			t.Error(name, e)
		}
	}
	refused("the MsgFail is not signed")
	p.sign(1)
	refused("nor heard to be")
	p.hear(0)
	p.add(0, 100, 1)
}

// P16.2: what may be settled, and when.
func TestSettle(t *testing.T) {
	p := readyPair(t)
	ask := func(name string, want api.Errno) {
		t.Helper()
		if m, e := p.c[1].Fulfil(0, secretOf(9)); e != want || !sameMsg(m, api.Msg{}) {
			t.Error(name, "Fulfil", m, e)
		}
		if m, e := p.c[1].Fail(0, make([]byte, 999)); e != want || !sameMsg(m, api.Msg{}) {
			t.Error(name, "Fail", m, e)
		}
	}
	ask("there is none", api.ErrNone)
	p.add(0, 100, 1)
	p.add(0, 10, 2)
	ask("it did not come", api.ErrNone)
	p.calm()
	ask("it came", api.ErrEarly)
	p.sign(0)
	p.calm()
	ask("B's commitment has it", api.ErrEarly)
	p.sign(1)
	ask("A's is pending", api.ErrEarly)
	p.hear(0)
	ask("A took the one ahead back", api.ErrEarly)
	p.calm()
	for _, id := range []int{-1, 2, api.MaxId, -1 << 63} {
		if _, e := p.c[1].Fulfil(id, secretOf(1)); e != api.ErrNone {
			t.Error("Fulfil of", id, e)
		}
	}
	if _, e := p.c[0].Fulfil(0, secretOf(1)); e != api.ErrNone {
		t.Error("one's own", e)
	}
	if m, e := p.c[1].Fulfil(0, secretOf(9)); e != api.ErrSecret || !sameMsg(m, api.Msg{}) {
		t.Error("another secret", m, e)
	}
	if m, e := p.c[1].Fail(1, make([]byte, api.MaxReason+1)); e != api.ErrLong || !sameMsg(m, api.Msg{}) {
		t.Error("a long reason", m, e)
	}
	if p.c[1].Settled(0) || p.c[1].Settled(1) {
		t.Error("nothing is settled")
	}
	m, e := p.c[1].Fulfil(0, secretOf(1))
	if want := (api.Msg{Kind: api.MsgFulfil, Channel: 3, Id: 0, Secret: secretOf(1)}); e != api.OK || !sameMsg(m, want) {
		t.Error("Fulfil", m, e)
	}
	reason := make([]byte, api.MaxReason)
	m, e = p.c[1].Fail(1, reason)
	if want := (api.Msg{Kind: api.MsgFail, Channel: 3, Id: 1, Reason: reason}); e != api.OK || !sameMsg(m, want) {
		t.Error("Fail", m, e)
	}
	ask("settled", api.ErrNone)
	if !p.c[1].Settled(0) || !p.c[1].Settled(1) || p.c[1].Settled(2) || p.c[1].Settled(-1) || p.c[0].Settled(0) {
		t.Error("Settled")
	}
}

// P16.3: what is signed, and when.
func TestSign(t *testing.T) {
	p := readyPair(t)
	if p.sign(0) || p.sign(1) {
		t.Error("there is nothing to be signed")
	}
	p.add(0, 100, 1)
	p.add(0, 10, 2)
	p.calm()
	if p.sign(1) {
		t.Error("B's commitment has nothing yet")
	}
	m, ok := p.c[0].Sign()
	a, b := p.c[0].own, p.c[0].others
	v, _ := updates.View(p.terms, a, b, 2, 0)
	x, _ := deal.Commit(p.terms, nodes[1], secrets.Point(seedOf(1), 1), v)
	id := chain.Id(x)
	if want := (api.Msg{Kind: api.MsgSign, Channel: 3, Number: 1, Tag: mac.Tag(keyOf(0), "tx", id[:])}); !ok || !sameMsg(m, want) {
		t.Error("Sign", m, ok)
	}
	if s, w, ok := p.c[0].Pending(); !ok || s != (api.Signed{Number: 1, Own: 2}) || !sameView(v, w) {
		t.Error("Pending", s, w, ok)
	}
	p.add(0, 1, 3)
	if p.sign(0) {
		t.Error("something is pending")
	}
	p.queue[1] = []api.Msg{m}
	p.hear(1)
	if p.sign(0) {
		t.Error("it is pending till it is taken back")
	}
	if !p.sign(1) {
		t.Error("B's commitment has two updates")
	}
	if s, _, _ := p.c[1].Pending(); s != (api.Signed{Number: 1, Other: 2}) {
		t.Error("B's pending one", s)
	}
	p.hear(0)
	if s, _ := p.c[0].Others(); s != (api.Signed{Number: 1, Own: 2}) || p.queue[0][0].Kind != api.MsgSign {
		t.Error("Others", s)
	}
	if _, _, ok := p.c[0].Pending(); ok {
		t.Error("nothing is pending")
	}
	if !p.sign(0) {
		t.Error("the third one is to be signed")
	}
}

// P16.4, P16.5: the chapter's example, message by message, and all that is noted.
func TestExample(t *testing.T) {
	p := readyPair(t)
	p.add(0, 200, 1)
	p.sign(0)
	p.hear(1)
	p.hear(1)
	revoke := api.Msg{Kind: api.MsgRevoke, Channel: 3, Number: 0, Secret: secrets.At(seedOf(1), 0), Point: secrets.Point(seedOf(1), 2)}
	if !sameMsgs(p.queue[0], []api.Msg{revoke}) {
		t.Error("Revoke", p.queue[0])
	}
	p.has("B's", 1, 800, 500, 1)
	p.has("A's", 0, 1000, 500, 0)
	p.sign(1)
	p.noted("not locked yet", 1)
	p.hear(0)
	if s, ok := p.c[0].Revoked(0); !ok || s != secrets.At(seedOf(1), 0) {
		t.Error("Revoked", s, ok)
	}
	if s, ok := p.c[0].Revoked(1); ok || s != [32]byte{} {
		t.Error("Revoked(1)", s, ok)
	}
	if s, ok := p.c[0].Revoked(-1); ok || s != [32]byte{} {
		t.Error("Revoked(-1)", s, ok)
	}
	p.hear(0)
	p.has("A's behind", 0, 800, 500, 1)
	p.noted("not locked for B yet", 1)
	p.hear(1)
	p.noted("it is locked", 1, addNote(0, 200, 1))
	p.noted("nothing for A", 0)
	p.fulfil(1, 0, 1)
	p.hear(0)
	p.noted("paid at once", 0, paidNote(0, 200, 1))
	p.agree()
	p.noted("once", 0)
	p.noted("nothing for B", 1)
	for i, c := range p.c {
		p.has("the end", i, 800, 700, 0)
		if !c.Idle() {
			t.Error("Idle", i)
		}
	}
}

// P16.5: notes of several, in the order of the others' updates.
func TestNotes(t *testing.T) {
	p := readyPair(t)
	for n := range 3 {
		p.add(0, 100+n, n)
	}
	p.add(1, 50, 9)
	p.agree()
	p.noted("B", 1, addNote(0, 100, 0), addNote(1, 101, 1), addNote(2, 102, 2))
	p.noted("A", 0, addNote(0, 50, 9))
	p.fail(1, 2)
	p.add(1, 51, 8)
	p.fail(1, 0)
	p.fulfil(1, 1, 1)
	p.calm()
	p.noted("a MsgFail may still be taken back", 0, paidNote(1, 101, 1))
	p.sign(1)
	p.calm()
	p.noted("A's commitment alone has it", 0)
	p.sign(0)
	p.calm()
	p.noted("both", 0, failedNote(2, 102, 2), addNote(1, 51, 8), failedNote(0, 100, 0))
	p.agree()
	p.noted("once", 0)
	p.noted("nothing for B", 1)
	p.has("the end", 0, 899, 500, 2)
	if p.c[0].Idle() || p.c[1].Idle() {
		t.Error("two Htlcs are on their way")
	}
}

// P16.7: whether there is nothing left to be done.
func TestIdle(t *testing.T) {
	p := readyPair(t)
	idle := func(name string, a, b bool) {
		t.Helper()
		if p.c[0].Idle() != a || p.c[1].Idle() != b {
			t.Error(name, p.c[0].Idle(), p.c[1].Idle())
		}
	}
	idle("at first", true, true)
	p.add(0, 100, 1)
	idle("an own update", false, true)
	p.calm()
	idle("one of the others'", false, false)
	p.agree()
	idle("on its way", false, false)
	p.fulfil(1, 0, 1)
	p.calm()
	p.sign(1)
	p.hear(0) // the MsgSign
	idle("A's commitment has all", false, false)
	p.hear(1) // the MsgRevoke
	p.sign(0)
	p.hear(1)
	idle("pending at A", false, true)
	p.hear(0)
	idle("at last", true, true)
	p.lose()
	idle("down", true, true)
}

// P16.7: either commitment can be published, whoever is B, at any time.
func TestClose(t *testing.T) {
	for i := range nodes {
		for rounds := range 3 {
			p := readyPair(t)
			for n := range rounds {
				p.add(0, 10, n)
				p.add(1, 5, n)
				p.agree()
			}
			x, e := p.c[i].Close()
			s, v := p.c[i].Own()
			want, _ := deal.Commit(p.terms, nodes[i], secrets.Point(seedOf(i), s.Number), v)
			if e != api.OK || chain.Id(x) != chain.Id(want) {
				t.Error("Close", x, e)
			}
			in := x.Ins[0]
			if in.TagA != p.chain.Tag(nodes[0], chain.Id(x)) || in.TagB != p.chain.Tag(nodes[1], chain.Id(x)) || s.Tag != p.chain.Tag(nodes[1-i], chain.Id(x)) {
				t.Error("tags", i, rounds)
			}
			if e := p.chain.Submit(x); e != api.OK {
				t.Error("the chain refuses it", e)
			}
			if again, e := p.c[i].Close(); e != api.OK || !reflect.DeepEqual(again, x) {
				t.Error("Close again", e)
			}
		}
	}
}

// P16.7: what no call made is no channel.
func TestNil(t *testing.T) {
	for _, c := range []*Channel{nil, {}} {
		if m, e := c.Up(); e != api.ErrClosed || !sameMsg(m, api.Msg{}) {
			t.Error("Up", m, e)
		}
		if n := c.Down(); len(n) != 0 {
			t.Error("Down", n)
		}
		if id, m, e := c.Add(1, 1, hashOf(1), onionOf(1)); id != 0 || e != api.ErrClosed || !sameMsg(m, api.Msg{}) {
			t.Error("Add", m, e)
		}
		if m, e := c.Fulfil(0, secretOf(1)); e != api.ErrClosed || !sameMsg(m, api.Msg{}) {
			t.Error("Fulfil", m, e)
		}
		if m, e := c.Fail(0, nil); e != api.ErrClosed || !sameMsg(m, api.Msg{}) {
			t.Error("Fail", m, e)
		}
		if m, ok := c.Sign(); ok || !sameMsg(m, api.Msg{}) {
			t.Error("Sign", m, ok)
		}
		if l, n, e := c.On(api.Msg{Kind: api.MsgHello, Channel: 3}); len(l)+len(n) != 0 || e != api.ErrClosed {
			t.Error("On", l, n, e)
		}
		s, v := c.Own()
		o, w := c.Others()
		n, x, ok := c.Pending()
		if s != (api.Signed{}) || o != s || n != s || ok || !sameView(v, api.View{}) || !sameView(w, api.View{}) || !sameView(x, api.View{}) {
			t.Error("Own, Others, Pending", s, o, n, ok)
		}
		if x, e := c.Close(); e != api.ErrClosed || !reflect.DeepEqual(x, api.Tx{}) {
			t.Error("Close", x, e)
		}
		if s, ok := c.Revoked(0); ok || s != [32]byte{} {
			t.Error("Revoked", s, ok)
		}
		if c.Settled(0) || c.Ready() || c.Broken() || c.Idle() || c.Terms() != (api.Terms{}) || c.Peer() != -1 {
			t.Error("the others")
		}
	}
}
