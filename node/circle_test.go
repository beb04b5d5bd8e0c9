package node

import (
	"testing"

	"tollhouse/api"
	"tollhouse/channel"
	"tollhouse/deal"
	"tollhouse/files"
	"tollhouse/mac"
	"tollhouse/onion"
	"tollhouse/wire"
)

// circle is a node, and around it, for each of its channels, one that has that channel and does just what a test wants.
type circle struct {
	t     *testing.T
	c     api.Config
	f     *files.Files
	n     *Node
	pals  map[int]*pal // by their channels
	queue []api.Sent   // what the node said, and nobody heard yet
	deaf  bool         // nobody hears anything
	busy  bool         // they are hearing
}

// pal is the other one of one of the node's channels.
type pal struct {
	*channel.Channel
	x     *circle
	notes []api.Note
	deaf  bool // what the node says to it is lost
}

// newCircle is node 1 of the configuration, with node 0 (channel 7) and node 2 (channel 9), which are there.
func newCircle(t *testing.T, change ...func(c *api.Config)) *circle {
	t.Helper()
	x := lonely(t, change...)
	for peer := range x.c.Nodes {
		x.hand(api.Input{Kind: api.InUp, Peer: peer})
	}
	for _, p := range x.pals {
		if !p.Ready() {
			t.Fatal("not ready")
		}
	}
	return x
}

// lonely is such a circle in which nobody is there.
func lonely(t *testing.T, change ...func(c *api.Config)) *circle {
	t.Helper()
	c := config()
	for i := range c.Terms {
		c.Terms[i].Fund = api.Ref{Tx: [32]byte{5, 5}, Out: i}
	}
	for _, f := range change {
		f(&c)
	}
	x := &circle{t: t, c: c, f: disk(t, 1<<24), pals: map[int]*pal{}}
	for _, d := range c.Terms {
		if other := deal.Other(d, c.Node); other >= 0 {
			ch, e := channel.New(d, Party(c.Seed, d, other))
			if e != api.OK {
				t.Fatal("channel", e)
			}
			x.pals[d.Channel] = &pal{Channel: ch, x: x}
		}
	}
	n, e := Open(c, x.f)
	if e != api.OK {
		t.Fatal("Open", e)
	}
	x.n = n
	return x
}

// peer is which node p is.
func (x *circle) peer(p *pal) int { return deal.Other(p.Terms(), x.c.Node) }

// hand hands the node an input, and lets all hear what comes of it, and answer.
func (x *circle) hand(in api.Input) api.Output {
	x.t.Helper()
	if in.Kind == api.InUp {
		// Who is there says so as well, when it hears the node.
		x.each(in.Peer, func(p *pal) { p.Down() })
	}
	out := on(x.t, x.n, in)
	x.queue = append(x.queue, out.Msgs...)
	if in.Kind == api.InDown {
		x.each(in.Peer, func(p *pal) { p.notes = append(p.notes, p.Down()...) })
	}
	if !x.deaf {
		x.all()
	}
	return out
}

// each does something with all that are of one node.
func (x *circle) each(peer int, do func(p *pal)) {
	for _, t := range x.c.Terms {
		if p := x.pals[t.Channel]; p != nil && x.peer(p) == peer {
			do(p)
		}
	}
}

// all lets all hear what the node said.
func (x *circle) all() {
	x.t.Helper()
	if x.busy {
		return
	}
	x.busy = true
	defer func() { x.busy = false }()
	for len(x.queue) > 0 {
		s := x.queue[0]
		x.queue = x.queue[1:]
		m, e := wire.Decode(s.Bytes)
		if e != api.OK {
			x.t.Fatal("the node says what is no message", e)
		}
		p := x.pals[m.Channel]
		if p == nil || x.peer(p) != s.To {
			x.t.Fatal("the node says something to another one")
		}
		if !p.deaf {
			p.hear(m)
		}
	}
}

// hear takes what the node says.
func (p *pal) hear(m api.Msg) {
	p.x.t.Helper()
	if m.Kind == api.MsgHello && !p.Ready() {
		if hello, e := p.Up(); e == api.OK {
			p.say(hello)
		}
	}
	answers, notes, e := p.On(m)
	if e != api.OK {
		p.x.t.Fatalf("the node said what may not be, kind %d: %d", m.Kind, e)
	}
	p.notes = append(p.notes, notes...)
	for _, a := range answers {
		p.say(a)
	}
	p.sign()
}

// say says something to the node.
func (p *pal) say(m api.Msg) api.Output {
	p.x.t.Helper()
	b, e := wire.Encode(m)
	if e != api.OK {
		p.x.t.Fatal("a message that may not be", e)
	}
	return p.x.hand(api.Input{Kind: api.InMsg, Peer: p.x.peer(p), Bytes: b})
}

// sign signs what is new.
func (p *pal) sign() {
	p.x.t.Helper()
	if m, ok := p.Channel.Sign(); ok {
		p.say(m)
	}
}

// add adds an HTLC, which is locked then, and is its Id.
func (p *pal) add(sum, expiry int, hash [32]byte, packet []byte) int {
	p.x.t.Helper()
	id, m, e := p.Add(sum, expiry, hash, packet)
	if e != api.OK {
		p.x.t.Fatal("Add", e)
	}
	p.say(m)
	p.sign()
	return id
}

// fulfil pays one of the node's HTLCs. It is not signed.
func (p *pal) fulfil(id int, secret [32]byte) {
	p.x.t.Helper()
	m, e := p.Fulfil(id, secret)
	if e != api.OK {
		p.x.t.Fatal("Fulfil", e)
	}
	p.say(m)
}

// fail fails one of the node's HTLCs. It is not signed.
func (p *pal) fail(id int, reason []byte) {
	p.x.t.Helper()
	m, e := p.Fail(id, reason)
	if e != api.OK {
		p.x.t.Fatal("Fail", e)
	}
	p.say(m)
}

// take is the notes of this kind since it was asked last.
func (p *pal) take(kind int) []api.Note {
	var l, left []api.Note
	for _, n := range p.notes {
		if n.Kind == kind {
			l = append(l, n)
		} else {
			left = append(left, n)
		}
	}
	p.notes = left
	return l
}

// one is the one note of this kind since it was asked last.
func (p *pal) one(kind int) api.Note {
	p.x.t.Helper()
	l := p.take(kind)
	if len(l) != 1 {
		p.x.t.Fatalf("%d notes of the kind %d, not one", len(l), kind)
	}
	return l[0]
}

// none asks that there is no note of this kind.
func (p *pal) none(kind int) {
	p.x.t.Helper()
	if l := p.take(kind); len(l) > 0 {
		p.x.t.Fatalf("notes of the kind %d: %v", kind, l)
	}
}

func hashOf(n int) [32]byte          { return mac.Hash(preimage(n)) }
func preimage(n int) [32]byte        { return [32]byte{byte(n), byte(n >> 8), 3} }
func nonceOf() [32]byte              { return [32]byte{8, 8} }
func (x *circle) height(n int)       { x.t.Helper(); x.hand(api.Input{Kind: api.InBlock, Height: n}) }
func (x *circle) key(i int) [32]byte { return Onion(x.c.Seed, i) }

// packet is a packet for these nodes.
func (x *circle) packet(hash [32]byte, nodes []int, hops ...api.Hop) []byte {
	x.t.Helper()
	var keys [][32]byte
	for _, i := range nodes {
		keys = append(keys, x.key(i))
	}
	b, e := onion.Build(keys, hops, nonceOf(), hash)
	if e != api.OK {
		x.t.Fatal("Build", e)
	}
	return b
}

// reason is why and where an HTLC failed, by what came back of a packet for these nodes.
func (x *circle) reason(b []byte, nodes ...int) (int, int) {
	x.t.Helper()
	var keys [][32]byte
	for _, i := range nodes {
		keys = append(keys, x.key(i))
	}
	place, told, e := onion.Unwrap(onion.Keys(keys, nonceOf()), b)
	if e != api.OK || len(told) != 1 {
		x.t.Fatal("Unwrap", e, told)
	}
	return place, int(told[0])
}

// wantReason asks that p's HTLC failed at the place, for that reason.
func (x *circle) wantReason(p *pal, place, reason int, nodes ...int) {
	x.t.Helper()
	n := p.one(api.NoteFailed)
	if k, r := x.reason(n.Reason, nodes...); k != place || r != reason {
		x.t.Errorf("failed at %d for %d, not at %d for %d", k, r, place, reason)
	}
}
