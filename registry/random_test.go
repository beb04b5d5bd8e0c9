package registry

import (
	"math/rand"
	"slices"
	"testing"

	"tollhouse/api"
	"tollhouse/share"
)

// walk is a registry, the document's words for the same calls, and what was done with parts and invoices.
type walk struct {
	t            *testing.T
	r            *rand.Rand
	g            *Registry
	p            *plain
	height, tick int
	held         map[api.Hook]api.Part // that were taken, and neither paid nor failed yet
	settled      map[[32]byte]int      // what was paid for an invoice
	seen         map[int]int           // how often a reason was told; 0: how often a part was paid
}

func newWalk(t *testing.T, seed int64, seen map[int]int) *walk {
	r := rand.New(rand.NewSource(seed))
	x := api.Rules{Delta: 1 + r.Intn(9), Grace: r.Intn(6), Far: 30 + r.Intn(40)}
	wait := 1 + r.Intn(20)
	g, e := New(2, x, wait)
	if e != api.OK {
		t.Fatal(e)
	}
	return &walk{t: t, r: r, g: g, p: &plain{node: 2, wait: wait, rules: x}, held: map[api.Hook]api.Part{}, settled: map[[32]byte]int{}, seen: seen}
}

func (w *walk) rare() bool { return w.r.Intn(25) == 0 }

func (w *walk) invoice() api.Invoice {
	i := want(w.r.Intn(20), 1+w.r.Intn(3))
	i.Amount = 1 + w.r.Intn(100)
	i.Expiry = w.height + w.r.Intn(100)
	if w.rare() {
		i.Node = w.r.Intn(8)
	}
	if w.rare() {
		i.Secret = nameOf(w.r.Intn(20))
	}
	return i
}

// part is a part that mostly fits: of a set of three parts at most, whose Total, root and name hang on the invoice.
func (w *walk) part() api.Part {
	i := want(w.r.Intn(20), 1+w.r.Intn(3))
	if len(w.p.invoices) > 0 && !w.rare() {
		i = w.p.invoices[w.r.Intn(len(w.p.invoices))].Invoice
	}
	n, k, set := 1+int(i.Secret[0])%3, w.r.Intn(3), w.r.Intn(3)
	total := i.Amount + (i.Amount*set)/2
	p := piece(i, w.r.Intn(60), 1+total/n, total)
	p.Expiry = w.height + w.p.rules.Grace + w.r.Intn(30)
	p.Hop.Expiry = p.Expiry - w.r.Intn(3)
	p.Hop.Index = k
	if i.Kind == api.InvoiceSet {
		root, name := [32]byte{1, byte(set)}, nameOf(100+set)
		shares, _ := share.Split(root, [32]byte{2}, n)
		p.Hop.Set, p.Hop.Share, p.Hash = name, shares[k%n], share.Hash(root, name, k)
	} else {
		// All parts of these are of one set: that its Total is always another one would leave none whole.
		p.Hop.Total = i.Amount
	}
	w.spoil(&p)
	return p
}

// spoil changes a part at times.
func (w *walk) spoil(p *api.Part) {
	if w.r.Intn(3) > 0 {
		return
	}
	switch w.r.Intn(12) {
	case 0:
		p.Hash[0]++
	case 1:
		p.Hop.Set[w.r.Intn(32)]++
	case 2:
		p.Hop.Set = [32]byte{}
	case 3:
		p.Hop.Share[0]++
	case 4:
		p.Hop.Index += w.r.Intn(3) - 1
	case 5:
		p.Hop.Total += w.r.Intn(3) - 1
	case 6:
		p.Hop.Total *= 1 + w.r.Intn(3)
	case 7:
		p.Amount += w.r.Intn(100) - 2
	case 8:
		p.Amount, p.Hop.Amount = 1, 1
	case 9:
		p.Expiry += w.r.Intn(60)
	case 10:
		p.Hop.Expiry += 5
	case 11:
		p.Hop.Channel = w.r.Intn(2)
	}
}

// acts asks that the same is done by both, and that what is done is done once.
func (w *walk) acts(name string, got, want []api.Act, also ...api.Part) {
	w.t.Helper()
	if !slices.Equal(got, want) {
		w.t.Fatalf("%s: %v, want %v", name, got, want)
	}
	for _, p := range also {
		if _, ok := w.held[p.In]; !ok {
			w.held[p.In] = p
		}
	}
	sums := map[[32]byte]int{}
	for _, a := range got {
		p, ok := w.held[a.In]
		if !ok {
			w.t.Fatalf("%s: %v, which is not held", name, a)
		}
		delete(w.held, a.In)
		w.seen[a.Reason]++
		if a.Pay {
			sums[p.Hop.Secret] += p.Amount
		}
	}
	for secret, sum := range sums {
		i := w.p.of(secret)
		if w.settled[secret] != 0 || sum < i.Amount || sum > 2*i.Amount {
			w.t.Fatalf("%s: %d is paid for an invoice of %d, for which %d was paid", name, sum, i.Amount, w.settled[secret])
		}
		w.settled[secret] = sum
	}
}

func (w *walk) errs(name string, e, want api.Errno) {
	w.t.Helper()
	if e != want {
		w.t.Fatalf("%s: %d, want %d", name, e, want)
	}
}

func (w *walk) step() {
	switch w.r.Intn(30) {
	case 0, 1:
		i, secret := w.invoice(), secretOf(w.r.Intn(20))
		if !w.rare() {
			secret = secretOf(int(i.Secret[0]))
		}
		w.errs("Add", w.g.Add(i, secret), w.p.add(i, secret))
	case 2:
		w.height += w.r.Intn(3)
		w.tick += w.r.Intn(3)
		height, tick := w.height+w.r.Intn(8), w.tick-w.r.Intn(4)
		w.acts("Tick", w.g.Tick(height, tick), w.p.tick(height, tick))
	case 3, 4:
		n := w.r.Intn(20)
		secret := secretOf(n)
		if w.rare() {
			secret = secretOf(w.r.Intn(20))
		}
		a, e := w.g.Settle(hashOf(n), secret)
		b, f := w.p.settle(hashOf(n), secret)
		w.errs("Settle", e, f)
		w.acts("Settle", a, b)
	case 5:
		if w.r.Intn(4) > 0 {
			return
		}
		secret := nameOf(w.r.Intn(20))
		a, e := w.g.Cancel(secret)
		b, f := w.p.cancel(secret)
		w.errs("Cancel", e, f)
		w.acts("Cancel", a, b)
	default:
		p := w.part()
		height, tick := w.height+w.r.Intn(2), w.tick-w.r.Intn(3)
		w.acts("Take", w.g.Take(p, height, tick), w.p.take(p, height, tick), p)
	}
}

// follows asks that all that was taken, and neither paid nor failed, is held; and that what was paid for an invoice is
// what is told of it.
func (w *walk) follows() {
	w.t.Helper()
	if len(w.held) != w.g.Held() {
		w.t.Fatalf("%d are held, want %d", w.g.Held(), len(w.held))
	}
	for in := range w.held {
		if !w.g.Holds(in) {
			w.t.Fatal("not held", in)
		}
	}
	for secret, sum := range w.settled {
		if state, got := w.g.State(secret); state != api.InvoiceSettled || got != sum {
			w.t.Fatalf("the state %d, %d of what was settled by %d", state, got, sum)
		}
	}
}

// P20.1 to P20.6: any calls, held against the document's words.
func TestWalk(t *testing.T) {
	seen := map[int]int{}
	states := map[int]int{}
	for seed := range 300 {
		w := newWalk(t, int64(seed), seen)
		for range 300 {
			w.step()
			w.follows()
			w.p.check(t, w.g)
		}
		for _, x := range w.p.invoices {
			states[10*x.Kind+x.state]++
		}
	}
	for _, reason := range []int{0, 1, 4, 5, 6, 7, 8, 9, 10} {
		if seen[reason] < 100 {
			t.Errorf("the reason %d was told %d times", reason, seen[reason])
		}
	}
	for _, state := range []int{11, 13, 14, 21, 22, 23, 24, 31, 33, 34} {
		if states[state] < 30 {
			t.Errorf("%d were in the state %d at the end", states[state], state)
		}
	}
}
