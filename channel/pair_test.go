package channel

import (
	"bytes"
	"reflect"
	"testing"

	"tollhouse/api"
	"tollhouse/chain"
	"tollhouse/deal"
	"tollhouse/mac"
	"tollhouse/secrets"
)

// nodes of the two in all tests: A, and B.
var nodes = [2]int{1, 4}

func netSeed() [32]byte { return [32]byte{77} }

func keyOf(i int) [32]byte  { return mac.Derive(netSeed(), "node", uint64(nodes[i])) }
func seedOf(i int) [32]byte { return [32]byte{byte(i), 5} }

func terms() api.Terms {
	return api.Terms{Channel: 3, A: nodes[0], B: nodes[1], StartA: 1000, StartB: 500, Delay: 3, Fee: 1, Reserve: 10, Slots: 5, Flight: 900}
}

func party(i int) api.Party {
	o := seedOf(1 - i)
	return api.Party{Node: nodes[i], Seed: seedOf(i), Key: keyOf(i), Other: keyOf(1 - i), Points: [2][32]byte{secrets.Point(o, 0), secrets.Point(o, 1)}}
}

func secretOf(n int) [32]byte { return [32]byte{byte(n), byte(n >> 8), 9} }
func hashOf(n int) [32]byte   { return mac.Hash(secretOf(n)) }
func onionOf(n int) []byte    { return bytes.Repeat([]byte{byte(n), 1, 2}, api.OnionSize/3) }
func reasonOf(id int) []byte  { return []byte{byte(id), 7} }

// sameMsg tells whether two messages are the same; nil and the empty list are.
func sameMsg(m, n api.Msg) bool {
	lists := bytes.Equal(m.Onion, n.Onion) && bytes.Equal(m.Reason, n.Reason)
	m.Onion, m.Reason, n.Onion, n.Reason = nil, nil, nil, nil
	return lists && reflect.DeepEqual(m, n)
}

func sameMsgs(l, k []api.Msg) bool {
	same := len(l) == len(k)
	for i := range l {
		same = same && sameMsg(l[i], k[i])
	}
	return same
}

func sameNotes(l, k []api.Note) bool {
	same := len(l) == len(k)
	for i := range l {
		if !same {
			return false
		}
		x, y := l[i], k[i]
		same = bytes.Equal(x.Onion, y.Onion) && bytes.Equal(x.Reason, y.Reason)
		x.Onion, x.Reason, y.Onion, y.Reason = nil, nil, nil, nil
		same = same && reflect.DeepEqual(x, y)
	}
	return same
}

func sameView(v, w api.View) bool {
	return v.A == w.A && v.B == w.B && (len(v.Htlcs)+len(w.Htlcs) == 0 || reflect.DeepEqual(v.Htlcs, w.Htlcs))
}

// pair is two channels of one another, and what is on its way to each of them.
type pair struct {
	t     *testing.T
	terms api.Terms
	chain *chain.Chain
	c     [2]*Channel
	queue [2][]api.Msg
	notes [2][]api.Note
}

// newPair is a pair that is down.
func newPair(t *testing.T, change ...func(d *api.Terms)) *pair {
	t.Helper()
	d := terms()
	for _, f := range change {
		f(&d)
	}
	net, e := chain.New(netSeed(), 5, []api.Out{deal.Fund(d)})
	if e != api.OK {
		t.Fatal("chain", e)
	}
	d.Fund = api.Ref{Tx: net.First()}
	p := &pair{t: t, terms: d, chain: net}
	for i := range p.c {
		if p.c[i], e = New(d, party(i)); e != api.OK {
			t.Fatal("New", e)
		}
	}
	return p
}

// readyPair is a pair whose MsgHellos have come.
func readyPair(t *testing.T, change ...func(d *api.Terms)) *pair {
	t.Helper()
	p := newPair(t, change...)
	p.meet()
	p.calm()
	return p
}

// meet puts both up.
func (p *pair) meet() {
	p.t.Helper()
	for i, c := range p.c {
		m, e := c.Up()
		if e != api.OK {
			p.t.Fatal("Up", e)
		}
		p.queue[1-i] = append(p.queue[1-i], m)
	}
}

// lose puts both down, with what was on its way.
func (p *pair) lose() {
	for i, c := range p.c {
		p.notes[i] = append(p.notes[i], c.Down()...)
		p.queue[i] = nil
	}
}

// hear lets i hear the next message.
func (p *pair) hear(i int) {
	p.t.Helper()
	m := p.queue[i][0]
	p.queue[i] = p.queue[i][1:]
	answers, notes, e := p.c[i].On(m)
	if e != api.OK {
		p.t.Fatalf("On of %d, kind %d: %d", i, m.Kind, e)
	}
	p.queue[1-i] = append(p.queue[1-i], answers...)
	p.notes[i] = append(p.notes[i], notes...)
}

// calm lets both hear all.
func (p *pair) calm() {
	p.t.Helper()
	for len(p.queue[0])+len(p.queue[1]) > 0 {
		for i := range p.c {
			if len(p.queue[i]) > 0 {
				p.hear(i)
			}
		}
	}
}

// sign lets i sign, and tells whether it did.
func (p *pair) sign(i int) bool {
	m, ok := p.c[i].Sign()
	if ok {
		p.queue[1-i] = append(p.queue[1-i], m)
	}
	return ok
}

// agree lets both sign till there is nothing to be signed.
func (p *pair) agree() {
	p.t.Helper()
	p.calm()
	for p.sign(0) || p.sign(1) {
		p.calm()
	}
}

// add lets i add an Htlc whose secret is that of n.
func (p *pair) add(i, sum, n int) int {
	p.t.Helper()
	id, m, e := p.c[i].Add(sum, 40+n, hashOf(n), onionOf(n))
	if e != api.OK {
		p.t.Fatal("Add", e)
	}
	p.queue[1-i] = append(p.queue[1-i], m)
	return id
}

func (p *pair) fulfil(i, id, n int) {
	p.t.Helper()
	m, e := p.c[i].Fulfil(id, secretOf(n))
	if e != api.OK {
		p.t.Fatal("Fulfil", e)
	}
	p.queue[1-i] = append(p.queue[1-i], m)
}

func (p *pair) fail(i, id int) {
	p.t.Helper()
	m, e := p.c[i].Fail(id, reasonOf(id))
	if e != api.OK {
		p.t.Fatal("Fail", e)
	}
	p.queue[1-i] = append(p.queue[1-i], m)
}

// noted asks for the notes of i since the last time.
func (p *pair) noted(name string, i int, want ...api.Note) {
	p.t.Helper()
	if !sameNotes(p.notes[i], want) {
		p.t.Errorf("%s: notes %v, want %v", name, p.notes[i], want)
	}
	p.notes[i] = nil
}

// kinds is the kinds of what is on its way to i.
func (p *pair) kinds(i int) []int {
	l := []int{}
	for _, m := range p.queue[i] {
		l = append(l, m.Kind)
	}
	return l
}

// has asks for what both have by i's commitment, and how many Htlcs there are.
func (p *pair) has(name string, i, a, b, htlcs int) {
	p.t.Helper()
	if _, v := p.c[i].Own(); v.A != a || v.B != b || len(v.Htlcs) != htlcs {
		p.t.Errorf("%s: view %v, want %d, %d and %d Htlcs", name, v, a, b, htlcs)
	}
}

// shape is all that a channel tells.
func shape(c *Channel) []any {
	own, view := c.Own()
	others, othersView := c.Others()
	next, nextView, ok := c.Pending()
	tx, e := c.Close()
	l := []any{own, view, others, othersView, next, nextView, ok, tx, e, c.Ready(), c.Idle(), c.Terms(), c.Peer()}
	for n := range 8 {
		secret, told := c.Revoked(n - 1)
		l = append(l, secret, told, c.Settled(n-1))
	}
	return l
}

// addNote is the note of an Add of n, failedNote that it was failed, and so on.
func addNote(id, sum, n int) api.Note {
	return api.Note{Kind: api.NoteAdd, Channel: 3, Id: id, Amount: sum, Expiry: 40 + n, Hash: hashOf(n), Onion: onionOf(n)}
}

func paidNote(id, sum, n int) api.Note {
	return api.Note{Kind: api.NotePaid, Channel: 3, Id: id, Amount: sum, Hash: hashOf(n), Secret: secretOf(n)}
}

func failedNote(id, sum, n int) api.Note {
	return api.Note{Kind: api.NoteFailed, Channel: 3, Id: id, Amount: sum, Hash: hashOf(n), Reason: reasonOf(id)}
}

func droppedNote(id, sum, n int) api.Note {
	return api.Note{Kind: api.NoteDropped, Channel: 3, Id: id, Amount: sum, Hash: hashOf(n)}
}
