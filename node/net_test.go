package node

import (
	"fmt"
	"slices"
	"testing"

	"tollhouse/api"
	"tollhouse/chain"
	"tollhouse/deal"
	"tollhouse/files"
	"tollhouse/invoice"
	"tollhouse/mac"
)

// net is some nodes, each on its disk, over one chain, and what is on its way between them.
type net struct {
	t      *testing.T
	terms  []api.Terms
	rules  []api.Rules
	seed   [32]byte
	wait   int
	margin int
	chain  *chain.Chain
	disks  []*files.Files
	nodes  []*Node
	there  map[[2]int]bool
	queue  map[[2]int][][]byte
	blocks [][]api.Tx // of each height, from 1 on
	got    []int      // how many blocks each node got
	made   []made
	old    [][]api.Tx       // commitments that each node had
	known  map[[32]byte]int // these, by their numbers
	inputs [][]api.Input    // that each node answered
}

// made is an invoice that a node made.
type made struct {
	node     int
	text     string
	invoice  api.Invoice
	preimage [32]byte
}

// plainRules are those that let P2 hold in nets of these tests: Delay 3, Margin 2.
func plainRules() api.Rules {
	return api.Rules{Fees: api.Fees{Base: 1}, Delta: 15, Grace: 6, Far: 500}
}

// between is a channel's terms.
func between(number, a, b, startA, startB int) api.Terms {
	return api.Terms{Channel: number, A: a, B: b, StartA: startA, StartB: startB, Delay: 3, Fee: 1, Reserve: 0, Slots: 16, Flight: 1 << 40}
}

// newNet is a net of so many nodes, which are open and parted.
func newNet(t *testing.T, nodes int, terms ...api.Terms) *net {
	t.Helper()
	x := emptyNet(t, terms...)
	for range nodes {
		x.rules = append(x.rules, plainRules())
	}
	return x.begin()
}

// emptyNet is a net without nodes yet.
func emptyNet(t *testing.T, terms ...api.Terms) *net {
	return &net{t: t, terms: terms, seed: [32]byte{42}, wait: 5, margin: 2, there: map[[2]int]bool{}, queue: map[[2]int][][]byte{}, known: map[[32]byte]int{}}
}

// begin lays the chain, and opens all nodes.
func (x *net) begin() *net {
	x.t.Helper()
	var outs []api.Out
	for _, t := range x.terms {
		outs = append(outs, deal.Fund(t))
	}
	var e api.Errno
	if x.chain, e = chain.New(x.seed, len(x.rules), outs); e != api.OK {
		x.t.Fatal("chain", e)
	}
	for i := range x.terms {
		x.terms[i].Fund = api.Ref{Tx: x.chain.First(), Out: i}
	}
	x.old = make([][]api.Tx, len(x.rules))
	x.got = make([]int, len(x.rules))
	x.inputs = make([][]api.Input, len(x.rules))
	for i := range x.rules {
		disk, _ := files.New(1 << 26)
		x.disks = append(x.disks, disk)
		n, e := Open(x.config(i), disk)
		if e != api.OK {
			x.t.Fatal("Open", i, e)
		}
		x.nodes = append(x.nodes, n)
		x.remember(i)
	}
	return x
}

func (x *net) config(i int) api.Config {
	return api.Config{Node: i, Nodes: len(x.rules), Seed: x.seed, Wait: x.wait, Margin: x.margin, Terms: x.terms, Rules: x.rules}
}

// remember keeps the commitments that node i has now.
func (x *net) remember(i int) {
	for _, t := range x.terms {
		tx, e := x.nodes[i].Close(t.Channel)
		if e != api.OK {
			continue
		}
		if id := chain.Id(tx); x.known[id] == 0 {
			x.known[id]++
			x.old[i] = append(x.old[i], tx)
		}
	}
}

// hand hands node i an input, and carries out what it says.
func (x *net) hand(i int, in api.Input) (api.Output, api.Errno) {
	out, e := x.nodes[i].On(in)
	if e == api.OK {
		kept := in
		kept.Bytes = slices.Clone(in.Bytes)
		x.inputs[i] = append(x.inputs[i], kept)
	}
	// What is handed in is not kept.
	for k := range in.Bytes {
		in.Bytes[k] ^= 255
	}
	for _, m := range out.Msgs {
		if x.there[[2]int{i, m.To}] {
			x.queue[[2]int{i, m.To}] = append(x.queue[[2]int{i, m.To}], m.Bytes)
		}
	}
	for _, tx := range out.Txs {
		x.chain.Submit(tx)
	}
	x.remember(i)
	if x.nodes[i].Dead() {
		for j := range x.nodes {
			x.part(i, j)
		}
	}
	return out, e
}

// part is that two are not there for one another any more.
func (x *net) part(a, b int) {
	delete(x.there, [2]int{a, b})
	delete(x.there, [2]int{b, a})
	delete(x.queue, [2]int{a, b})
	delete(x.queue, [2]int{b, a})
}

// neighbours tells whether two have a channel.
func (x *net) neighbours(a, b int) bool {
	for _, t := range x.terms {
		if t.A == min(a, b) && t.B == max(a, b) {
			return true
		}
	}
	return false
}

func (x *net) up(a, b int) {
	if !x.neighbours(a, b) || x.nodes[a].Dead() || x.nodes[b].Dead() || x.there[[2]int{a, b}] {
		return
	}
	x.there[[2]int{a, b}], x.there[[2]int{b, a}] = true, true
	x.hand(a, api.Input{Kind: api.InUp, Peer: b})
	x.hand(b, api.Input{Kind: api.InUp, Peer: a})
}

func (x *net) lose(a, b int) {
	if !x.there[[2]int{a, b}] {
		return
	}
	x.part(a, b)
	x.hand(a, api.Input{Kind: api.InDown, Peer: b})
	x.hand(b, api.Input{Kind: api.InDown, Peer: a})
}

// allUp lets all neighbours be there for one another.
func (x *net) allUp() {
	for a := range x.nodes {
		for b := range a {
			x.up(b, a)
		}
	}
}

// carry carries the first message from a to b.
func (x *net) carry(a, b int) bool {
	way := [2]int{a, b}
	if len(x.queue[way]) == 0 {
		return false
	}
	m := x.queue[way][0]
	x.queue[way] = x.queue[way][1:]
	x.hand(b, api.Input{Kind: api.InMsg, Peer: a, Bytes: m})
	return true
}

// all carries all messages, till there are none.
func (x *net) all() {
	x.t.Helper()
	count := 0
	for again := true; again; {
		again = false
		for a := range x.nodes {
			for b := range x.nodes {
				if x.carry(a, b) {
					again = true
					if count++; count > api.MostCarried {
						x.t.Fatal("messages without an end")
					}
				}
			}
		}
	}
}

// block is the next block, and hands it to all.
func (x *net) block(hold ...int) {
	x.blocks = append(x.blocks, x.chain.Block(hold))
	for i := range x.nodes {
		x.catchUp(i)
	}
}

// catchUp hands node i all blocks that it has not got.
func (x *net) catchUp(i int) {
	for x.got[i] < len(x.blocks) && !x.nodes[i].Dead() {
		height := x.got[i] + 1
		for _, tx := range x.blocks[x.got[i]] {
			x.hand(i, api.Input{Kind: api.InBlock, Height: height, Txs: []api.Tx{tx}})
		}
		x.hand(i, api.Input{Kind: api.InBlock, Height: height})
		if x.nodes[i].Dead() {
			return
		}
		x.got[i]++
	}
}

// crash cuts the power of node i, and opens it anew.
func (x *net) crash(i, acts, bytes int) {
	x.t.Helper()
	for j := range x.nodes {
		if x.there[[2]int{i, j}] {
			x.part(i, j)
			x.hand(j, api.Input{Kind: api.InDown, Peer: i})
		}
	}
	if e := x.disks[i].Crash(acts, bytes); e != api.OK {
		x.t.Fatal("Crash", e)
	}
	n, e := Open(x.config(i), x.disks[i])
	if e != api.OK {
		x.t.Fatal("Open", e)
	}
	x.nodes[i] = n
	x.remember(i)
	// It may have got a part alone of the last block: that one is handed to it again.
	x.got[i] = max(0, n.Height()-1)
	x.catchUp(i)
}

// calm is so many rounds in which all is well.
func (x *net) calm(rounds int) {
	x.t.Helper()
	for range rounds {
		for i, n := range x.nodes {
			if n.Dead() {
				x.crash(i, 0, 0)
			}
		}
		x.allUp()
		x.all()
		for i := range x.nodes {
			x.hand(i, api.Input{Kind: api.InTick})
		}
		x.block()
		x.all()
	}
}

// bill lets node i make an invoice.
func (x *net) bill(i, kind, amount, expiry int) made {
	x.t.Helper()
	m, ok := x.tryBill(i, kind, amount, expiry)
	if !ok {
		x.t.Fatal("InInvoice")
	}
	return m
}

// tryBill lets node i make an invoice, if it can.
func (x *net) tryBill(i, kind, amount, expiry int) (made, bool) {
	x.t.Helper()
	preimage := mac.Derive(x.seed, "preimage", uint64(len(x.made)))
	out, e := x.hand(i, api.Input{Kind: api.InInvoice, Number: kind, Amount: amount, Expiry: expiry, Text: fmt.Sprint("bill ", len(x.made)), Secret: preimage, Hash: mac.Hash(preimage)})
	if e != api.OK || out.Answer != api.OK {
		return made{}, false
	}
	v, e := invoice.Decode(out.Text)
	if e != api.OK {
		x.t.Fatal("a text that is no invoice", e)
	}
	m := made{node: i, text: out.Text, invoice: v, preimage: preimage}
	x.made = append(x.made, m)
	return m, true
}

// pay lets node i pay, and is what it answers.
func (x *net) pay(i int, m made, most int) api.Errno {
	x.t.Helper()
	out, e := x.hand(i, api.Input{Kind: api.InPay, Text: m.text, Amount: most})
	if e != api.OK {
		x.t.Fatal("InPay", e)
	}
	return out.Answer
}

// wantPaid asks that node i's payment of m is done, with these fees, and that m is settled.
func (x *net) wantPaid(i int, m made, fees int) {
	x.t.Helper()
	state, paid, f := x.nodes[i].Payment(m.invoice.Secret)
	if state != api.PayDone || paid != m.invoice.Amount || f != fees {
		x.t.Fatalf("a payment is in state %d, %d paid, fees %d", state, paid, f)
	}
	if state, got := x.nodes[m.node].Invoice(m.invoice.Secret); state != api.InvoiceSettled || got != m.invoice.Amount {
		x.t.Fatalf("an invoice is in state %d, with %d", state, got)
	}
}

// wantFailed asks that node i's payment of m failed, and that m has this state.
func (x *net) wantFailed(i int, m made, is int) {
	x.t.Helper()
	if state, paid, _ := x.nodes[i].Payment(m.invoice.Secret); state != api.PayFailed || paid != 0 {
		x.t.Fatalf("a payment is in state %d, with %d", state, paid)
	}
	if state, _ := x.nodes[m.node].Invoice(m.invoice.Secret); state != is {
		x.t.Fatalf("an invoice is in state %d", state)
	}
}

// wantIdle asks that nothing is left to be done.
func (x *net) wantIdle() {
	x.t.Helper()
	for i, n := range x.nodes {
		if !n.Idle() {
			x.t.Fatalf("node %d is not idle: %+v", i, n.Purse())
		}
	}
	for way, l := range x.queue {
		if len(l) > 0 {
			x.t.Fatal("something is on its way", way)
		}
	}
}

// onChain is what node i has alone in outputs of the chain.
func (x *net) onChain(i int) int {
	sum := 0
	for _, txs := range x.blocks {
		for _, tx := range txs {
			for k, out := range tx.Outs {
				_, _, unspent := x.chain.Unspent(api.Ref{Tx: chain.Id(tx), Out: k})
				if unspent && len(out.Paths) == 1 && out.Paths[0] == (api.Path{A: i}) {
					sum += out.Amount
				}
			}
		}
	}
	return sum
}

// left goes over the outputs on the chain that are not spent, and are not one node's alone.
func (x *net) left(do func(out api.Out)) {
	for _, txs := range x.blocks {
		for _, tx := range txs {
			for k := range tx.Outs {
				out, _, unspent := x.chain.Unspent(api.Ref{Tx: chain.Id(tx), Out: k})
				if unspent && (len(out.Paths) > 1 || out.Paths[0].Two) {
					do(out)
				}
			}
		}
	}
}

// greatestFee is that of all channels.
func (x *net) greatestFee() int {
	fee := 0
	for _, t := range x.terms {
		fee = max(fee, t.Fee)
	}
	return fee
}

// quiet tells whether all nodes but bad have nothing left to do, nothing is on its way, and all outputs on the chain are someone's, or dust. (Where there is a bad one, it may leave outputs there, and never sign what it said.)
func (x *net) quiet(bad ...int) bool {
	cheats := slices.ContainsFunc(bad, func(i int) bool { return i >= 0 })
	for i, n := range x.nodes {
		busy := len(n.ends)+n.circuits.Len()+n.payments.Flying()+n.registry.Held() > 0
		if !slices.Contains(bad, i) && (n.Dead() || busy || !cheats && !n.Idle()) {
			return false
		}
	}
	for _, l := range x.queue {
		if len(l) > 0 {
			return false
		}
	}
	fee, quiet := x.greatestFee(), true
	x.left(func(out api.Out) { quiet = quiet && (cheats || out.Amount <= fee) })
	return quiet
}

// short is by how much node i has less than what is due to it: what it had, less what it paid, more by what it got, less the fees that it paid itself on the chain, and what is not worth to be claimed of its channels.
func (x *net) short(i int) int {
	due := 0
	for _, t := range x.terms {
		switch i {
		case t.A:
			due += t.StartA - x.costs(t, i) - flag(x.spent(t))*t.Fee
		case t.B:
			due += t.StartB - x.costs(t, i)
		}
	}
	n := x.nodes[i]
	for _, id := range n.Payments() {
		_, paid, fees := n.Payment(id)
		due -= paid + fees
	}
	for _, v := range n.Invoices() {
		if state, got := n.Invoice(v.Secret); state == api.InvoiceSettled {
			due += got
		}
	}
	return max(0, due-n.Purse().Open-x.onChain(i))
}

// spent tells whether a channel's money is.
func (x *net) spent(t api.Terms) bool {
	_, _, ok := x.chain.Spent(t.Fund)
	return ok
}

// costs is what node i paid for its claims of a channel, and what of it is not worth to be claimed.
func (x *net) costs(t api.Terms, i int) int {
	tx, _, _ := x.chain.Spent(t.Fund)
	sum := 0
	for k, out := range tx.Outs {
		by, _, taken := x.chain.Spent(api.Ref{Tx: chain.Id(tx), Out: k})
		switch {
		case taken && by.Outs[0].Paths[0].A == i:
			sum += out.Amount - by.Outs[0].Amount
		case !taken && out.Amount <= t.Fee:
			sum += out.Amount
		}
	}
	return sum
}

// wantWhole asks that no money is lost or made, by the views of both nodes of each channel.
func (x *net) wantWhole() {
	x.t.Helper()
	for _, t := range x.terms {
		if x.spent(t) {
			continue
		}
		for _, i := range []int{t.A, t.B} {
			own, others, _ := x.nodes[i].Channel(t.Channel)
			for _, v := range []api.View{own, others} {
				sum := v.A + v.B
				for _, h := range v.Htlcs {
					sum += h.Amount
				}
				if sum != t.StartA+t.StartB {
					x.t.Fatal("a channel has another sum", t, v)
				}
			}
		}
	}
}
