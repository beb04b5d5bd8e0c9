package node

import (
	"math/rand"
	"slices"
	"testing"

	"tollhouse/amount"
	"tollhouse/api"
	"tollhouse/mac"
	"tollhouse/wire"
)

// anyNet is a net of some nodes with some channels, whose rules let P2 hold.
func anyNet(t *testing.T, r *rand.Rand) *net {
	t.Helper()
	nodes := 2 + r.Intn(4)
	var terms []api.Terms
	for i := 1; i < nodes; i++ {
		terms = append(terms, anyTerms(r, len(terms)+1, r.Intn(i), i))
	}
	for range r.Intn(nodes + 1) {
		a := r.Intn(nodes - 1)
		terms = append(terms, anyTerms(r, len(terms)+1, a, a+1+r.Intn(nodes-1-a)))
	}
	x := emptyNet(t, terms...)
	x.seed, x.wait, x.margin = [32]byte{byte(r.Intn(256)), byte(r.Intn(256))}, 1+r.Intn(6), 2+r.Intn(2)
	for range nodes {
		grace := maxDelay + x.margin + 1 + r.Intn(2)
		x.rules = append(x.rules, api.Rules{
			Fees:  api.Fees{Base: r.Intn(3), Rate: 10000 * r.Intn(3)},
			Delta: maxDelay + x.margin + grace + 4 + r.Intn(4),
			Grace: grace,
			Far:   1000,
		})
	}
	return x.begin()
}

// maxDelay is the greatest Delay of channels of nets here.
const maxDelay = 3

func anyTerms(r *rand.Rand, number, a, b int) api.Terms {
	x := between(number, a, b, 200+r.Intn(800), r.Intn(800))
	x.Delay = 1 + r.Intn(maxDelay)
	x.Fee = r.Intn([]int{4, 4, 4, 30}[r.Intn(4)])
	x.Reserve = r.Intn(2) * r.Intn(30)
	x.Slots = 1 + r.Intn(16)
	x.Flight = 100 + r.Intn(2000)
	return x
}

// temper is how often each thing happens in a net.
type temper struct {
	up, lose, carry, tick, block, crash, stop, bill, pay, settle, close, bytes, cheat, all int
}

func anyTemper(r *rand.Rand) temper {
	some := func(l ...int) int { return l[r.Intn(len(l))] }
	return temper{
		up: 8, lose: some(0, 1, 3), carry: 45, tick: some(1, 3), block: some(1, 3, 8, 15), crash: some(0, 1, 2), stop: some(0, 1),
		bill: 7, pay: 10, settle: some(0, 2, 5), close: some(0, 0, 1), bytes: some(0, 1, 2), cheat: some(0, 0, 1), all: some(3, 10),
	}
}

// move lets something happen. Node bad may do what it likes.
func (x *net) move(r *rand.Rand, w temper, bad int) {
	x.t.Helper()
	a, b := r.Intn(len(x.nodes)), r.Intn(len(x.nodes))
	k := r.Intn(w.up + w.lose + w.carry + w.tick + w.block + w.crash + w.stop + w.bill + w.pay + w.settle + w.close + w.bytes + w.cheat + w.all)
	is := func(n int) bool { k -= n; return k < 0 }
	switch {
	case is(w.up):
		x.up(a, b)
	case is(w.lose):
		x.lose(a, b)
	case is(w.carry):
		for range 1 + r.Intn(5) {
			x.carry(r.Intn(len(x.nodes)), r.Intn(len(x.nodes)))
		}
	case is(w.tick):
		x.hand(a, api.Input{Kind: api.InTick})
	case is(w.block):
		x.block()
	case is(w.crash):
		x.crash(a, r.Intn(x.disks[a].Unsure()+1), r.Intn(30))
	case is(w.stop):
		x.disks[a].Stop(r.Intn(6))
	case is(w.bill):
		if len(x.made) < 60 {
			x.tryBill(a, 1+r.Intn(3), 1+r.Intn(300), x.chain.Height()+20+r.Intn(40))
		}
	case is(w.pay):
		if len(x.made) > 0 {
			m := x.made[len(x.made)-1-r.Intn(min(4, len(x.made)))]
			x.hand(a, api.Input{Kind: api.InPay, Text: m.text, Amount: r.Intn(40)})
		}
	case is(w.settle):
		x.decide(r)
	case is(w.close):
		if r.Intn(5) == 0 {
			x.hand(a, api.Input{Kind: api.InClose, Number: 1 + r.Intn(len(x.terms))})
		}
	case is(w.bytes):
		if way := [2]int{bad, b}; x.there[way] {
			x.queue[way] = append(x.queue[way], x.anyBytes(r, bad, b))
		}
	case is(w.cheat):
		if bad >= 0 && r.Intn(4) == 0 {
			x.chain.Submit(x.old[bad][r.Intn(len(x.old[bad]))])
		}
	default:
		x.all()
	}
	// Who is dead begins anew at once.
	for i, n := range x.nodes {
		if n.Dead() {
			x.crash(i, r.Intn(x.disks[i].Unsure()+1), r.Intn(30))
		}
	}
}

// decide settles or cancels some invoice.
func (x *net) decide(r *rand.Rand) {
	if len(x.made) == 0 {
		return
	}
	m := x.made[r.Intn(len(x.made))]
	in := api.Input{Kind: api.InSettle, Hash: mac.Hash(m.preimage), Secret: m.preimage}
	if r.Intn(4) == 0 {
		in = api.Input{Kind: api.InCancel, Secret: m.invoice.Secret}
	}
	x.hand(m.node, in)
}

// anyBytes is something that a may say to b, and should not: what one of them said already, a message that is nearly right, or none.
func (x *net) anyBytes(r *rand.Rand, a, b int) []byte {
	for _, way := range [][2]int{{b, a}, {a, b}} {
		if q := x.queue[way]; len(q) > 0 && r.Intn(3) == 0 {
			return slices.Clone(q[r.Intn(len(q))])
		}
	}
	if r.Intn(4) > 0 {
		if l, e := wire.Encode(x.anyMsg(r, a, b)); e == api.OK {
			return l
		}
	}
	l := make([]byte, r.Intn(40))
	r.Read(l)
	return l
}

// anyMsg is a message that would often be right, if a's channel had said it.
func (x *net) anyMsg(r *rand.Rand, a, b int) api.Msg {
	t := x.terms[r.Intn(len(x.terms))]
	m := api.Msg{Kind: 1 + r.Intn(3), Channel: t.Channel, Id: r.Intn(3), Amount: 1 + r.Intn(200), Expiry: x.chain.Height() + r.Intn(60), Hash: [32]byte{1}, Onion: make([]byte, api.OnionSize), Reason: make([]byte, r.Intn(100))}
	own, _, _ := x.nodes[b].Channel(t.Channel)
	for _, h := range own.Htlcs {
		if r.Intn(2) == 0 && (m.Kind == api.MsgAdd) == (h.By == a) {
			m.Id, m.Hash = h.Id+flag(m.Kind == api.MsgAdd), h.Hash
		}
	}
	for _, y := range x.made {
		if mac.Hash(y.preimage) == m.Hash || r.Intn(len(x.made)) == 0 {
			m.Secret = y.preimage
			break
		}
	}
	return wire.Bare(m)
}

// calmDown goes on till nothing is left to be done, and tells whether that came.
func (x *net) calmDown(bad int) bool {
	x.t.Helper()
	quiet := 0
	for rounds := 0; rounds < 400 && quiet < 4; rounds += 5 {
		x.calm(5)
		quiet++
		if !x.quiet(bad) {
			quiet = 0
		}
	}
	return quiet == 4
}

// wantAgree asks that node i's payments ended, and that payees tell the same; it is how many are done, and how many failed.
func (x *net) wantAgree(i, bad int) (int, int) {
	x.t.Helper()
	count := map[int]int{}
	for _, id := range x.nodes[i].Payments() {
		state, paid, _ := x.nodes[i].Payment(id)
		count[state]++
		for _, m := range x.made {
			if m.invoice.Secret != id || m.node == bad {
				continue
			}
			is, got := x.nodes[m.node].Invoice(id)
			done := state == api.PayDone && is == api.InvoiceSettled && paid <= got
			if !done && (state != api.PayFailed || paid != 0) {
				x.t.Errorf("a payment of %d: %d, with %d; the invoice of %d: %d, with %d", i, state, paid, m.node, is, got)
			}
		}
	}
	return count[api.PayDone], count[api.PayFailed]
}

// P1, P2, P3: whatever happens, no money is lost or made; in the end nothing is left to be done, nobody that keeps to the rules has less than is due to it, and payers and payees tell the same.
func TestAnyhow(t *testing.T) {
	done, failed, spent := 0, 0, 0
	for seed := range int64(60) {
		r := rand.New(rand.NewSource(seed))
		x, w, bad := anyNet(t, r), anyTemper(r), -1
		if seed%3 == 2 {
			bad = r.Intn(len(x.nodes))
		}
		x.allUp()
		x.all()
		for range 150 + r.Intn(300) {
			x.move(r, w, bad)
			x.wantWhole()
		}
		if !x.calmDown(bad) {
			t.Errorf("seed %d: something is left to be done", seed)
		}
		x.wantWhole()
		for i := range x.nodes {
			if i == bad {
				continue
			}
			if s := x.short(i); s > 0 {
				t.Errorf("seed %d: node %d is short by %d", seed, i, s)
			}
			d, f := x.wantAgree(i, bad)
			done, failed = done+d, failed+f
		}
		for _, z := range x.terms {
			spent += flag(x.spent(z))
		}
	}
	if done < 100 || failed < 100 || spent < 20 {
		t.Error("too little happened", done, failed, spent)
	}
}

// roomy tells whether there is one way from a to b that has room for sum now, with fees of at most most.
func (x *net) roomy(a, b, sum, most int) bool {
	var back func(at, into int, seen map[int]bool) bool
	back = func(at, into int, seen map[int]bool) bool {
		for _, t := range x.terms {
			from := t.A + t.B - at
			if t.A != at && t.B != at || seen[from] {
				continue
			}
			own, _, open := x.nodes[from].Channel(t.Channel)
			has := own.A - t.Fee
			if from == t.B {
				has = own.B
			}
			if !open || has-t.Reserve < into || into > t.Flight {
				continue
			}
			if from == a {
				return into-sum <= most
			}
			in, _ := amount.In(x.rules[from].Fees, into)
			seen[from] = true
			if back(from, in, seen) {
				return true
			}
			delete(seen, from)
		}
		return false
	}
	return back(b, sum, map[int]bool{b: true})
}

// P3: with a way that has room enough, and all there, a payment is done.
func TestRoom(t *testing.T) {
	done, none := 0, 0
	for seed := range int64(40) {
		r := rand.New(rand.NewSource(seed))
		x := anyNet(t, r)
		x.allUp()
		x.all()
		for range 25 {
			a, b := r.Intn(len(x.nodes)), r.Intn(len(x.nodes))
			if a == b || len(x.nodes[a].Payments()) >= api.MaxPayments {
				continue
			}
			m := x.bill(b, []int{api.InvoicePlain, api.InvoiceSet}[r.Intn(2)], 1+r.Intn(400), x.chain.Height()+100)
			most := r.Intn(100)
			room := x.roomy(a, b, m.invoice.Amount, most)
			x.pay(a, m, most)
			x.all()
			state, _, _ := x.nodes[a].Payment(m.invoice.Secret)
			// Parts that came alone wait.
			for ticks := 0; ticks < 150 && state == api.PayOpen; ticks++ {
				for i := range x.nodes {
					x.hand(i, api.Input{Kind: api.InTick})
				}
				x.all()
				state, _, _ = x.nodes[a].Payment(m.invoice.Secret)
			}
			switch {
			case state == api.PayDone:
				done++
			case state == api.PayOpen || room:
				t.Errorf("seed %d: of %d from %d to %d, fees %d: state %d, room %v", seed, m.invoice.Amount, a, b, most, state, room)
			default:
				none++
			}
		}
		x.wantIdle()
	}
	if done < 300 || none < 50 {
		t.Error("too little happened", done, none)
	}
}
