package audit

import (
	"math/rand"
	"testing"

	"tollhouse/api"
	"tollhouse/mac"
	"tollhouse/sim"
	"tollhouse/wire"
)

// maxDelay is the greatest Delay of channels of any net here.
const maxDelay = 4

// anyNet is a net of some nodes with some channels, whose rules let P2 hold.
func anyNet(r *rand.Rand) api.Net {
	nodes := 2 + r.Intn(4)
	x := api.Net{Nodes: nodes, Seed: [32]byte{byte(r.Intn(256)), byte(r.Intn(256))}, Wait: 1 + r.Intn(8), Margin: 2 + r.Intn(3), Bad: make([]bool, nodes)}
	numbers := r.Perm(40)
	add := func(a, b int) {
		x.Terms = append(x.Terms, anyTerms(r, 1+numbers[len(x.Terms)], a, b))
	}
	for i := 1; i < nodes; i++ {
		add(r.Intn(i), i)
	}
	for range r.Intn(nodes + 1) {
		a := r.Intn(nodes - 1)
		add(a, a+1+r.Intn(nodes-1-a))
	}
	for range nodes {
		grace := maxDelay + x.Margin + 1 + r.Intn(2)
		x.Rules = append(x.Rules, api.Rules{
			Fees:  api.Fees{Base: r.Intn(3), Rate: 10000 * r.Intn(3)},
			Delta: maxDelay + x.Margin + grace + 4 + r.Intn(4),
			Grace: grace,
			Far:   1000,
		})
	}
	return x
}

// careless is such a net with any rules.
func careless(r *rand.Rand) api.Net {
	x := anyNet(r)
	x.Margin = r.Intn(3)
	for i := range x.Rules {
		x.Rules[i].Delta, x.Rules[i].Grace = 1+r.Intn(9), r.Intn(6)
	}
	return x
}

func anyTerms(r *rand.Rand, number, a, b int) api.Terms {
	return api.Terms{
		Channel: number, A: a, B: b, StartA: 200 + r.Intn(800), StartB: r.Intn(800),
		Delay:   1 + r.Intn(maxDelay),
		Fee:     r.Intn([]int{4, 4, 4, 30}[r.Intn(4)]),
		Reserve: r.Intn(2) * r.Intn(30),
		Slots:   1 + r.Intn(api.MaxSlots),
		Flight:  100 + r.Intn(2000),
	}
}

// world is a net to which anything may happen.
type world struct {
	t *testing.T
	*sim.Sim
	r       *rand.Rand
	name    int64
	net     api.Net
	odds    map[int]int // of each kind of moves
	total   int
	settled map[[32]byte]int // what invoices got that are settled
}

// newWorld is a net of some nature, in half of which all are there at first; of a bad one some nodes may do what they like.
func newWorld(t *testing.T, seed int64, bad bool, some func(r *rand.Rand) api.Net) *world {
	t.Helper()
	r := rand.New(rand.NewSource(seed))
	x := &world{t: t, r: r, name: seed, net: some(r), settled: map[[32]byte]int{}}
	if bad {
		x.net.Bad[r.Intn(x.net.Nodes)] = true
		if r.Intn(4) == 0 {
			x.net.Bad[r.Intn(x.net.Nodes)] = true
		}
	}
	var e api.Errno
	if x.Sim, e = sim.New(x.net); e != api.OK {
		t.Fatal("New", e)
	}
	x.odds = anyOdds(r)
	for _, n := range x.odds {
		x.total += n
	}
	if r.Intn(2) == 0 {
		x.Calm(1)
	}
	return x
}

// anyOdds is how often moves of each kind happen in a net.
func anyOdds(r *rand.Rand) map[int]int {
	some := func(l ...int) int { return l[r.Intn(len(l))] }
	return map[int]int{
		api.MoveUp: some(2, 8), api.MoveLose: some(0, 1, 3, 8), api.MoveCarry: some(40, 120), api.MoveTick: some(1, 3), api.MoveBlock: some(1, 3, 8, 15, 50),
		api.MoveCrash: some(0, 1, 2), api.MoveStop: some(0, 1), api.MoveInvoice: 7, api.MovePay: 10, api.MoveSettle: some(0, 2, 5),
		api.MoveCancel: some(0, 1), api.MoveClose: some(0, 0, 1, 3), api.MoveBytes: some(0, 2, 6), api.MoveCheat: some(0, 0, 1, 4), api.MoveAll: some(3, 10),
	}
}

// kind is that of some move.
func (x *world) kind() int {
	n := x.r.Intn(x.total)
	for kind := api.MoveUp; ; kind++ {
		if n -= x.odds[kind]; n < 0 {
			return kind
		}
	}
}

// any is some move.
func (x *world) any() api.Move {
	r := x.r
	m := api.Move{Kind: x.kind(), A: r.Intn(x.net.Nodes), B: r.Intn(x.net.Nodes)}
	switch m.Kind {
	case api.MoveCrash:
		m.N, m.Amount = r.Intn(x.Files(m.A).Unsure()+1), r.Intn(60)
	case api.MoveStop:
		m.N = r.Intn(6)
	case api.MoveInvoice:
		m.N, m.Amount, m.Expiry = 1+r.Intn(3), 1+r.Intn([]int{20, 100, 300}[r.Intn(3)]), x.Height()+20+r.Intn(40)
	case api.MovePay:
		m.N, m.Amount = max(0, len(x.Made())-1-r.Intn(4)), r.Intn(40)
	case api.MoveSettle, api.MoveCancel:
		m.N = max(0, len(x.Made())-1-r.Intn(6))
		if m.N < len(x.Made()) {
			m.A = x.Made()[m.N].Node
		}
	case api.MoveClose:
		m.N = x.net.Terms[r.Intn(len(x.net.Terms))].Channel
	case api.MoveBytes:
		m.Bytes = x.bytes(m.A, m.B)
	case api.MoveCheat:
		m.N = r.Intn(20)
	}
	return m
}

// wantWhole asks that all money is there, and that each invoice that is settled stays so, with at least its amount, and at most twice as much.
func (x *world) wantWhole() {
	x.t.Helper()
	if !Whole(x.Sim) {
		x.t.Fatalf("seed %d: not whole: %+v", x.name, Books(x.Sim))
	}
	for _, m := range x.Made() {
		state, got := x.Node(m.Node).Invoice(m.Secret)
		if was, ok := x.settled[m.Secret]; ok && (state != api.InvoiceSettled || got != was) {
			x.t.Fatalf("seed %d: an invoice that was settled by %d is in state %d, with %d", x.name, was, state, got)
		}
		if state != api.InvoiceSettled {
			continue
		}
		x.settled[m.Secret] = got
		if got < m.Amount || got > 2*m.Amount {
			x.t.Fatalf("seed %d: an invoice of %d was settled by %d", x.name, m.Amount, got)
		}
	}
}

// reopen lets all dead nodes begin anew.
func (x *world) reopen() {
	x.t.Helper()
	for i := range x.net.Nodes {
		if !x.Node(i).Dead() {
			continue
		}
		if e := x.Do(api.Move{Kind: api.MoveCrash, A: i, N: x.r.Intn(x.Files(i).Unsure() + 1), Amount: x.r.Intn(60)}); e != api.OK {
			x.t.Fatal("MoveCrash", e)
		}
	}
}

// bytes is something that a may say to b, and should not: a message that is nearly right, or none.
func (x *world) bytes(a, b int) []byte {
	if x.r.Intn(4) > 0 {
		if l, e := wire.Encode(x.msg(a, b)); e == api.OK {
			return l
		}
	}
	l := make([]byte, x.r.Intn(40))
	x.r.Read(l)
	return l
}

// msg is a message that would often be right, if a's channel had said it.
func (x *world) msg(a, b int) api.Msg {
	r, made := x.r, x.Made()
	t := x.net.Terms[r.Intn(len(x.net.Terms))]
	m := api.Msg{Kind: 1 + r.Intn(3), Channel: t.Channel, Id: r.Intn(3), Amount: 1 + r.Intn(200), Expiry: x.Height() + r.Intn(60), Hash: [32]byte{1}, Onion: make([]byte, api.OnionSize), Reason: make([]byte, r.Intn(100))}
	own, _, _ := x.Node(b).Channel(t.Channel)
	for _, h := range own.Htlcs {
		if r.Intn(2) == 0 && (m.Kind == api.MsgAdd) == (h.By == a) {
			m.Id, m.Hash = h.Id, h.Hash
			if m.Kind == api.MsgAdd {
				m.Id++
			}
		}
	}
	for _, y := range made {
		if x.knows(a, y) && (mac.Hash(y.Preimage) == m.Hash || r.Intn(len(made)) == 0) {
			m.Secret = y.Preimage
			break
		}
	}
	return wire.Bare(m)
}

// knows tells whether a node can tell what pays an invoice.
func (x *world) knows(i int, y api.Made) bool {
	_, known := x.Node(i).Known(mac.Hash(y.Preimage))
	return known || y.Node == i
}

// settleDown goes on till the net is quiet for some time, and tells whether that came.
func (x *world) settleDown() bool {
	quiet := 0
	for rounds := 0; rounds < 400 && quiet < 4; rounds += 5 {
		x.Calm(5)
		quiet++
		if !x.Quiet() {
			quiet = 0
		}
	}
	return quiet == 4
}
