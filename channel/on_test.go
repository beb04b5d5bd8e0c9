package channel

import (
	"reflect"
	"testing"

	"tollhouse/api"
	"tollhouse/chain"
	"tollhouse/deal"
	"tollhouse/mac"
	"tollhouse/secrets"
)

func hello(number, told int) api.Msg {
	return api.Msg{Kind: api.MsgHello, Channel: 3, Number: number, Told: told}
}

func addOf(id, sum int) api.Msg {
	return api.Msg{Kind: api.MsgAdd, Channel: 3, Id: id, Amount: sum, Expiry: 9, Hash: hashOf(1), Onion: onionOf(1)}
}

func fulfilOf(id, n int) api.Msg {
	return api.Msg{Kind: api.MsgFulfil, Channel: 3, Id: id, Secret: secretOf(n)}
}

func failOf(id int) api.Msg {
	return api.Msg{Kind: api.MsgFail, Channel: 3, Id: id}
}

// revokeOf is B's MsgRevoke of its commitment of that number.
func revokeOf(number int) api.Msg {
	return api.Msg{Kind: api.MsgRevoke, Channel: 3, Number: number, Secret: secrets.At(seedOf(1), number), Point: secrets.Point(seedOf(1), number+2)}
}

// signed is B's MsgSign of A's commitment of that number and view.
func (p *pair) signed(number int, v api.View) api.Msg {
	x, _ := deal.Commit(p.terms, nodes[0], secrets.Point(seedOf(0), number), v)
	id := chain.Id(x)
	return api.Msg{Kind: api.MsgSign, Channel: 3, Number: number, Tag: mac.Tag(keyOf(1), "tx", id[:])}
}

// with is m, changed.
func with(m api.Msg, change func(m *api.Msg)) api.Msg {
	change(&m)
	return m
}

// breaks asks for m to break A's channel, and to change nothing else.
func (p *pair) breaks(name string, m api.Msg) {
	p.t.Helper()
	c := p.c[0]
	before := shape(c)
	if l, n, e := c.On(m); e != api.ErrClash || len(l)+len(n) != 0 {
		p.t.Errorf("%s: On = %v, %v, %d", name, l, n, e)
	}
	if !c.Broken() || !reflect.DeepEqual(shape(c), before) {
		p.t.Errorf("%s: broken %v, or something else changed", name, c.Broken())
	}
	if l, n, e := c.On(m); e != api.ErrBroken || len(l)+len(n) != 0 {
		p.t.Errorf("%s: On again = %v, %v, %d", name, l, n, e)
	}
	if x, e := c.Close(); e != api.OK || p.chain.Submit(x) != api.OK {
		p.t.Errorf("%s: its commitment is of no use", name)
	}
}

// takes asks for m to be taken by A.
func (p *pair) takes(name string, m api.Msg) {
	p.t.Helper()
	if _, _, e := p.c[0].On(m); e != api.OK || p.c[0].Broken() {
		p.t.Errorf("%s: On = %d", name, e)
	}
}

// busyPair is a pair where A has the Htlc 0 of 100 that is locked, 1 of 10 that is acked and not locked, and 2 of 1 that is pending; B has the Htlc 0 of 50 that is locked.
func busyPair(t *testing.T) *pair {
	t.Helper()
	p := readyPair(t)
	p.add(0, 100, 1)
	p.add(1, 50, 2)
	p.agree()
	p.add(0, 10, 3)
	p.sign(0)
	p.calm()
	p.add(0, 1, 4)
	p.sign(0)
	if s, _ := p.c[0].Own(); s.Own != 1 || s.Other != 1 {
		t.Fatal("Own", s)
	}
	if s, _ := p.c[0].Others(); s.Own != 2 || s.Other != 1 {
		t.Fatal("Others", s)
	}
	return p
}

// P16.4: messages that are refused, and do not break anything.
func TestOnRefused(t *testing.T) {
	p := newPair(t)
	ask := func(name string, m api.Msg, want api.Errno) {
		t.Helper()
		before := shape(p.c[0])
		if l, n, e := p.c[0].On(m); e != want || len(l)+len(n) != 0 || p.c[0].Broken() || !reflect.DeepEqual(shape(p.c[0]), before) {
			t.Error(name, l, n, e)
		}
	}
	all := func(name string) {
		t.Helper()
		ask(name+": no message", api.Msg{}, api.ErrArg)
		ask(name+": an unknown kind", api.Msg{Kind: 7, Channel: 3}, api.ErrArg)
		ask(name+": another Channel", with(hello(0, 0), func(m *api.Msg) { m.Channel = 4 }), api.ErrArg)
		ask(name+": a field too many", with(hello(0, 0), func(m *api.Msg) { m.Id = 1 }), api.ErrArg)
		ask(name+": Told below 0", hello(0, -1), api.ErrArg)
		ask(name+": no Onion", with(addOf(0, 1), func(m *api.Msg) { m.Onion = nil }), api.ErrArg)
		ask(name+": a long Reason", with(failOf(0), func(m *api.Msg) { m.Reason = make([]byte, 257) }), api.ErrArg)
	}
	all("down")
	for _, m := range []api.Msg{hello(0, 0), addOf(0, 1), fulfilOf(0, 1), failOf(0), p.signed(1, api.View{A: 1000, B: 500}), revokeOf(0)} {
		ask("down", m, api.ErrDown)
	}
	p.meet()
	all("up")
	for _, m := range []api.Msg{addOf(0, 1), fulfilOf(0, 1), failOf(0), p.signed(1, api.View{A: 1000, B: 500}), revokeOf(0)} {
		ask("up", m, api.ErrDown)
	}
	p.calm()
	all("ready")
	p.takes("an Add", addOf(0, 1))
}

// P16.4: updates that break a channel, and some that do not.
func TestOnUpdate(t *testing.T) {
	for name, m := range map[string]api.Msg{
		"the same Id":               addOf(0, 1),
		"an Id too far":             addOf(2, 1),
		"nothing":                   addOf(1, 0),
		"no Hash":                   with(addOf(1, 1), func(m *api.Msg) { m.Hash = [32]byte{} }),
		"Reserve":                   addOf(1, 441),
		"Flight":                    addOf(1, 900),
		"another secret":            fulfilOf(0, 2),
		"fulfilled and not there":   fulfilOf(3, 1),
		"failed and not there":      failOf(3),
		"fulfilled and not locked":  fulfilOf(1, 3),
		"failed and not locked":     failOf(1),
		"fulfilled and not acked":   fulfilOf(2, 4),
		"failed and not acked":      failOf(2),
		"a MsgHello":                hello(2, 1),
		"a MsgHello, as it was not": hello(9, 9),
	} {
		busyPair(t).breaks(name, m)
	}
	for name, m := range map[string]api.Msg{"Add": addOf(1, 440), "Fulfil": fulfilOf(0, 1), "Fail": failOf(0)} {
		p := busyPair(t)
		p.takes(name, m)
		if m.Kind != api.MsgAdd {
			p.breaks(name+" twice", failOf(0))
		}
	}
	p := busyPair(t)
	l, n, e := p.c[0].On(fulfilOf(0, 1))
	if e != api.OK || len(l) != 0 || !sameNotes(n, []api.Note{paidNote(0, 100, 1)}) {
		t.Error("NotePaid", l, n, e)
	}
	p = busyPair(t)
	for id := 1; id < 5; id++ {
		p.takes("Slots", addOf(id, 1))
	}
	p.breaks("Slots", addOf(5, 1))
}

// P16.4: the other one counts on own updates alone that are acked.
func TestOnUpdateAcked(t *testing.T) {
	p := readyPair(t, func(d *api.Terms) { d.Slots = 1 })
	p.add(1, 50, 1)
	p.agree()
	p.fail(0, 0)
	p.sign(0)
	p.hear(1)
	p.hear(1)
	// B has it in its commitment, but A did not hear so: an Add ahead of the MsgRevoke is too early.
	p.breaks("too early", addOf(1, 1))
	p = readyPair(t, func(d *api.Terms) { d.Slots = 1 })
	p.add(1, 50, 1)
	p.agree()
	p.fail(0, 0)
	p.sign(0)
	p.calm()
	p.takes("acked", addOf(1, 1))
}

// P16.4: a MsgSign that is not of the commitment that one would have.
func TestOnSign(t *testing.T) {
	begin := api.View{A: 1000, B: 500}
	one := api.View{A: 1000, B: 493, Htlcs: []api.Htlc{{By: nodes[1], Id: 0, Amount: 7, Hash: hashOf(1), Expiry: 9}}}
	fresh := func() *pair {
		p := readyPair(t)
		p.takes("an Add", addOf(0, 7))
		return p
	}
	p := fresh()
	for name, m := range map[string]api.Msg{
		"the number that is": p.signed(0, one),
		"a number too far":   p.signed(2, one),
		"another view":       p.signed(1, begin),
		"no tag":             {Kind: api.MsgSign, Channel: 3, Number: 1},
		"another tag":        with(p.signed(1, one), func(m *api.Msg) { m.Tag[31] ^= 1 }),
		"of another number":  with(p.signed(2, one), func(m *api.Msg) { m.Number = 1 }),
		"A's own tag": with(p.signed(1, one), func(m *api.Msg) {
			x, _ := deal.Commit(p.terms, nodes[0], secrets.Point(seedOf(0), 1), one)
			id := chain.Id(x)
			m.Tag = mac.Tag(keyOf(0), "tx", id[:])
		}),
	} {
		fresh().breaks(name, m)
	}
	p = fresh()
	l, n, e := p.c[0].On(p.signed(1, one))
	want := api.Msg{Kind: api.MsgRevoke, Channel: 3, Number: 0, Secret: secrets.At(seedOf(0), 0), Point: secrets.Point(seedOf(0), 2)}
	if e != api.OK || len(n) != 0 || !sameMsgs(l, []api.Msg{want}) {
		t.Error("On", l, n, e)
	}
	if s, v := p.c[0].Own(); s != (api.Signed{Number: 1, Other: 1, Tag: p.signed(1, one).Tag}) || !sameView(v, one) {
		t.Error("Own", s, v)
	}
	// Nothing forbids to sign the same updates again.
	l, _, e = p.c[0].On(p.signed(2, one))
	if e != api.OK || len(l) != 1 || l[0].Number != 1 || l[0].Secret != secrets.At(seedOf(0), 1) || l[0].Point != secrets.Point(seedOf(0), 3) {
		t.Error("On again", l, e)
	}
	// Own updates that are not acked are no part of it.
	p = fresh()
	p.add(0, 3, 3)
	p.sign(0)
	p.takes("not acked", p.signed(1, one))
	if s, _ := p.c[0].Own(); s.Own != 0 || s.Other != 1 {
		t.Error("Own", s)
	}
}

// P16.4: a MsgRevoke that takes nothing back.
func TestOnRevoke(t *testing.T) {
	fresh := func() *pair {
		p := readyPair(t)
		p.add(0, 7, 1)
		p.sign(0)
		return p
	}
	for name, m := range map[string]api.Msg{
		"a number too far": revokeOf(1),
		"another number":   with(revokeOf(0), func(m *api.Msg) { m.Number = 1 }),
		"another secret":   with(revokeOf(0), func(m *api.Msg) { m.Secret[0] ^= 1 }),
		"the next secret":  with(revokeOf(0), func(m *api.Msg) { m.Secret = secrets.At(seedOf(1), 1) }),
		"A's own secret":   with(revokeOf(0), func(m *api.Msg) { m.Secret = secrets.At(seedOf(0), 0) }),
		"no point":         with(revokeOf(0), func(m *api.Msg) { m.Point = [32]byte{} }),
	} {
		fresh().breaks(name, m)
	}
	readyPair(t).breaks("nothing is pending", revokeOf(0))
	p := fresh()
	l, n, e := p.c[0].On(revokeOf(0))
	if e != api.OK || len(l)+len(n) != 0 {
		t.Error("On", l, n, e)
	}
	if s, v := p.c[0].Others(); s != (api.Signed{Number: 1, Own: 1}) || v.A != 993 {
		t.Error("Others", s, v)
	}
	p.breaks("twice", revokeOf(0))
}

// P16.4: secrets that are those of their points, but of no seed.
func TestOnRevokeShelf(t *testing.T) {
	p := newPair(t)
	who := party(0)
	who.Points = [2][32]byte{hashOf(1), hashOf(2)}
	p.c[0], _ = New(p.terms, who)
	p.c[0].Up()
	p.takes("a MsgHello", hello(0, 0))
	revoke := func(number, n int) api.Msg {
		return api.Msg{Kind: api.MsgRevoke, Channel: 3, Number: number, Secret: secretOf(n), Point: [32]byte{9}}
	}
	for n := range 2 {
		p.add(0, 1, n)
		if !p.sign(0) {
			t.Fatal("Sign")
		}
		if n == 0 {
			p.takes("the first secret", revoke(0, 1))
		}
	}
	p.breaks("the second one does not make it", revoke(1, 2))
}

// P16.6: where the other one may be when it is there again.
func TestHello(t *testing.T) {
	// A has commitment 2, of B's it knows 3, and 4 may be pending.
	lost := func(pending bool) *pair {
		p := readyPair(t)
		p.add(0, 100, 1)
		p.add(1, 50, 2)
		p.agree()
		p.fail(1, 0)
		p.agree()
		p.add(0, 10, 3)
		if pending {
			p.sign(0)
		}
		p.lose()
		s, _ := p.c[0].Own()
		o, _ := p.c[0].Others()
		if s.Number != 2 || o.Number != 3 {
			t.Fatal("numbers", s, o)
		}
		p.c[0].Up()
		return p
	}
	for _, pending := range []bool{false, true} {
		for number := range 6 {
			for told := range 6 {
				p := lost(pending)
				if (number == 3 || pending && number == 4) && (told == 1 || told == 2) {
					p.takes("a MsgHello", hello(number, told))
					if !p.c[0].Ready() {
						t.Error("not ready behind", number, told)
					}
				} else {
					p.breaks("a MsgHello", hello(number, told))
					if p.c[0].Ready() {
						t.Error("ready behind", number, told)
					}
				}
			}
		}
	}
}

// P16.6: what is said again, written out.
func TestAgain(t *testing.T) {
	p := readyPair(t)
	p.add(0, 100, 1)
	p.agree()
	_, add, _ := p.c[0].Add(10, 42, hashOf(2), onionOf(2))
	sign, _ := p.c[0].Sign()
	p.add(0, 1, 9) // is not signed, and gone
	ask := func(name string, i int, m api.Msg, want ...api.Msg) {
		t.Helper()
		p.lose()
		p.meet()
		l, n, e := p.c[i].On(m)
		if e != api.OK || len(n) != 0 || !sameMsgs(l, want) {
			t.Errorf("%s: On = %v, %v, %d, want %v", name, l, n, e, want)
		}
	}
	revoke := api.Msg{Kind: api.MsgRevoke, Channel: 3, Number: 0, Secret: secrets.At(seedOf(0), 0), Point: secrets.Point(seedOf(0), 2)}
	for range 2 {
		ask("all came", 0, hello(2, 1))
		ask("the MsgSign did not come", 0, hello(1, 1), add, sign)
		ask("the MsgRevoke did not come", 0, hello(2, 0), revoke)
		ask("both did not come", 0, hello(1, 0), revoke, add, sign)
	}
	ask("B has nothing to say", 1, hello(1, 1))
	ask("B's MsgRevoke did not come", 1, hello(1, 0), revokeOf(0))
}

// P16.6: what was signed ahead of what is taken back is said ahead of it.
func TestAgainOrder(t *testing.T) {
	// A signs, with an Add and a MsgFail of its own; then B's MsgSign comes, with an Add of B's.
	p := readyPair(t)
	p.add(1, 50, 5)
	p.agree()
	p.add(1, 20, 6)
	p.sign(1)
	p.add(0, 10, 2)
	p.fail(0, 0)
	p.sign(0)
	p.hear(0)
	p.hear(0)
	p.lose()
	p.meet()
	p.hear(0)
	if got := p.kinds(1)[1:]; !reflect.DeepEqual(got, []int{api.MsgAdd, api.MsgFail, api.MsgSign, api.MsgRevoke}) {
		t.Error("signed first", got)
	}
	p.calm()
	p.agree()
	p.has("the end", 0, 990, 480, 2)
	// B's MsgSign comes, and then A signs what it has.
	p = readyPair(t)
	p.add(1, 20, 6)
	p.sign(1)
	p.add(0, 10, 2)
	p.hear(0)
	p.hear(0)
	p.sign(0)
	p.lose()
	p.meet()
	p.hear(0)
	if got := p.kinds(1)[1:]; !reflect.DeepEqual(got, []int{api.MsgRevoke, api.MsgAdd, api.MsgSign}) {
		t.Error("taken back first", got)
	}
	p.agree()
	p.has("the end", 0, 990, 480, 2)
}

// P16.3, P16.4: there is a last commitment.
func TestLast(t *testing.T) {
	p := readyPair(t)
	for n := 0; ; n++ {
		p.add(0, 1, n)
		p.agree()
		if s, _ := p.c[0].Others(); s.Number == api.MaxSecrets-3 {
			break
		}
		p.fail(1, n)
		p.calm()
		p.sign(1)
		p.calm()
		p.sign(0)
		p.calm()
		p.notes = [2][]api.Note{}
	}
	s, v := p.c[0].Own()
	if s.Number != api.MaxSecrets-3 || len(v.Htlcs) != 1 || v.Htlcs[0].Id != 2046 {
		t.Fatal("Own", s, v)
	}
	for i, c := range p.c {
		p.add(i, 2, 1)
		p.calm()
		if m, ok := c.Sign(); ok {
			t.Error("one more is signed", m)
		}
		if secret, ok := c.Revoked(api.MaxSecrets - 4); !ok || secret != secrets.At(seedOf(1-i), api.MaxSecrets-4) {
			t.Error("Revoked", ok)
		}
	}
	v.B -= 2
	v.Htlcs = append(v.Htlcs, api.Htlc{By: nodes[1], Id: 0, Amount: 2, Hash: hashOf(1), Expiry: 41})
	p.breaks("one more", p.signed(api.MaxSecrets-2, v))
}
