package resolver

import (
	"math/rand"
	"reflect"
	"testing"

	"tollhouse/api"
	"tollhouse/chain"
	"tollhouse/channel"
	"tollhouse/deal"
	"tollhouse/mac"
	"tollhouse/secrets"
)

// nodes of the two in all tests: A, and B.
var nodes = [2]int{1, 4}

func netSeed() [32]byte { return [32]byte{77} }

func keyOf(i int) [32]byte    { return mac.Derive(netSeed(), "node", uint64(nodes[i])) }
func seedOf(i int) [32]byte   { return [32]byte{byte(i), 5} }
func secretOf(n int) [32]byte { return [32]byte{byte(n), byte(n >> 8), 9} }
func hashOf(n int) [32]byte   { return mac.Hash(secretOf(n)) }

func terms() api.Terms {
	return api.Terms{Channel: 3, A: nodes[0], B: nodes[1], StartA: 1000, StartB: 500, Delay: 3, Fee: 2, Reserve: 10, Slots: 5, Flight: 900}
}

// pair is two channels of one another over a chain, what is on its way to each of them, and all commitments that each ever had.
type pair struct {
	t     *testing.T
	terms api.Terms
	chain *chain.Chain
	seeds [2][32]byte
	c     [2]*channel.Channel
	queue [2][]api.Msg
	had   [2][]api.Tx
}

func newPair(t *testing.T, d api.Terms, seeds [2][32]byte) *pair {
	t.Helper()
	net, e := chain.New(netSeed(), 5, []api.Out{deal.Fund(d)})
	if e != api.OK {
		t.Fatal("chain", e)
	}
	d.Fund = api.Ref{Tx: net.First()}
	p := &pair{t: t, terms: d, chain: net, seeds: seeds}
	for i := range p.c {
		o := seeds[1-i]
		p.c[i], e = channel.New(d, api.Party{Node: nodes[i], Seed: seeds[i], Key: keyOf(i), Other: keyOf(1 - i),
			Points: [2][32]byte{secrets.Point(o, 0), secrets.Point(o, 1)}})
		if e != api.OK {
			t.Fatal("New", e)
		}
		p.remember(i)
	}
	p.meet()
	return p
}

// remember keeps i's commitment, if it is a new one.
func (p *pair) remember(i int) {
	if s, _ := p.c[i].Own(); s.Number == len(p.had[i]) {
		x, _ := p.c[i].Close()
		p.had[i] = append(p.had[i], x)
	}
}

func (p *pair) meet() {
	for i, c := range p.c {
		m, _ := c.Up()
		p.queue[1-i] = append(p.queue[1-i], m)
	}
	p.hear(0)
	p.hear(1)
}

func (p *pair) lose() {
	for i, c := range p.c {
		c.Down()
		p.queue[i] = nil
	}
}

// hear lets i hear the next message, if there is one.
func (p *pair) hear(i int) {
	p.t.Helper()
	if len(p.queue[i]) == 0 {
		return
	}
	m := p.queue[i][0]
	p.queue[i] = p.queue[i][1:]
	answers, _, e := p.c[i].On(m)
	if e != api.OK {
		p.t.Fatalf("On of %d, kind %d: %d", i, m.Kind, e)
	}
	p.queue[1-i] = append(p.queue[1-i], answers...)
	p.remember(i)
}

func (p *pair) calm() {
	for len(p.queue[0])+len(p.queue[1]) > 0 {
		p.hear(0)
		p.hear(1)
	}
}

func (p *pair) sign(i int) bool {
	m, ok := p.c[i].Sign()
	if ok {
		p.queue[1-i] = append(p.queue[1-i], m)
	}
	return ok
}

// agree lets both sign till there is nothing to be signed.
func (p *pair) agree() {
	p.calm()
	for p.sign(0) || p.sign(1) {
		p.calm()
	}
}

// add lets i add an Htlc whose secret is that of n, and tells whether it may.
func (p *pair) add(i, sum, expiry, n int) bool {
	_, m, e := p.c[i].Add(sum, expiry, hashOf(n), make([]byte, api.OnionSize))
	if e == api.OK {
		p.queue[1-i] = append(p.queue[1-i], m)
	}
	return e == api.OK
}

// settle lets i settle the other one's Htlc id, if it may: by the secret of n, or, if that is below 0, by failing it.
func (p *pair) settle(i, id, n int) {
	var m api.Msg
	var e api.Errno
	if n < 0 {
		m, e = p.c[i].Fail(id, []byte{1})
	} else {
		m, e = p.c[i].Fulfil(id, secretOf(n))
	}
	if e == api.OK {
		p.queue[1-i] = append(p.queue[1-i], m)
	}
}

// step is anything that may happen to the two; n is the secret of what is added.
func (p *pair) step(r *rand.Rand, n int) {
	i := r.Intn(2)
	switch r.Intn(12) {
	case 0:
		p.lose()
		p.meet()
	case 1, 2:
		p.add(i, 1+r.Intn(200), 20+r.Intn(30), n)
	case 3:
		_, v := p.c[i].Own()
		for _, h := range v.Htlcs {
			if h.By == nodes[1-i] && r.Intn(2) == 0 {
				p.settle(i, h.Id, secretNumber(h.Hash, n))
			}
		}
	case 4, 5, 6:
		p.sign(i)
	default:
		p.hear(i)
	}
}

// secretNumber is of which n below most the hash is that of the secret, at times -1.
func secretNumber(hash [32]byte, most int) int {
	for n := range most {
		if n%3 > 0 && hashOf(n) == hash {
			return n
		}
	}
	return -1
}

func sameView(v, w api.View) bool {
	return v.A == w.A && v.B == w.B && (len(v.Htlcs)+len(w.Htlcs) == 0 || reflect.DeepEqual(v.Htlcs, w.Htlcs))
}

// sameTx tells whether two transactions are the same in all; nil and the empty list are.
func sameTx(x, y api.Tx) bool {
	same := len(x.Ins) == len(y.Ins) && len(x.Outs) == len(y.Outs)
	for i := range x.Ins {
		same = same && x.Ins[i] == y.Ins[i]
	}
	for i := range x.Outs {
		same = same && x.Outs[i].Amount == y.Outs[i].Amount && len(x.Outs[i].Paths) == len(y.Outs[i].Paths)
		for k := range x.Outs[i].Paths {
			same = same && x.Outs[i].Paths[k] == y.Outs[i].Paths[k]
		}
	}
	return same
}

func sameTxs(l, k []api.Tx) bool {
	same := len(l) == len(k)
	for i := range l {
		same = same && sameTx(l[i], k[i])
	}
	return same
}

// sameClosed tells whether two closed channels are the same in all.
func sameClosed(y, z api.Closed) bool {
	return y.Kind == z.Kind && sameView(y.View, z.View) && y.Secret == z.Secret && sameTx(y.Tx, z.Tx) && y.At == z.At
}
