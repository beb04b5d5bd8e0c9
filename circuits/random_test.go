package circuits

import (
	"math/rand"
	"testing"

	"tollhouse/api"
)

// walk is circuits, the document's words for the same calls, and what became of each circuit that was ever opened.
type walk struct {
	t     *testing.T
	r     *rand.Rand
	c     *Circuits
	p     *plain
	ended map[api.Hook]int // in which state a circuit was seen to have ended
	seen  map[string]int
}

func (w *walk) hook() api.Hook {
	return hook(w.r.Intn(5), w.r.Intn(5)-w.r.Intn(2))
}

// known is the In of a circuit, or any.
func (w *walk) known() api.Hook {
	if len(w.p.all) == 0 || w.r.Intn(10) == 0 {
		return w.hook()
	}
	return w.p.all[w.r.Intn(len(w.p.all))].In
}

// out is the Out of a circuit, or any; and the secret of that circuit, mostly.
func (w *walk) out() (api.Hook, [32]byte) {
	if len(w.p.all) == 0 || w.r.Intn(10) == 0 {
		return w.hook(), secretOf(w.r.Intn(3))
	}
	x := w.p.all[w.r.Intn(len(w.p.all))]
	for n := range 3 {
		if hashOf(n) == x.Hash && w.r.Intn(6) > 0 {
			return x.Out, secretOf(n)
		}
	}
	return x.Out, secretOf(w.r.Intn(3))
}

func (w *walk) want(name string, e, want api.Errno) {
	w.t.Helper()
	if e != want {
		w.t.Fatalf("%s: %d, want %d", name, e, want)
	}
	w.seen[name]++
	if e == api.OK {
		w.seen[name+" OK"]++
	}
}

func (w *walk) wantBoth(name string, x, y api.Circuit, e, want api.Errno) {
	w.t.Helper()
	w.want(name, e, want)
	if !same(x, y) {
		w.t.Fatalf("%s: %v, want %v", name, x, y)
	}
}

func (w *walk) step() {
	reason := make([]byte, w.r.Intn(4))
	w.r.Read(reason)
	in := w.known()
	out, secret := w.out()
	switch w.r.Intn(8) {
	case 0, 1:
		x := api.Circuit{In: w.hook(), Out: w.hook(), Amount: w.r.Intn(9), Expiry: w.r.Intn(9), Hash: hashOf(w.r.Intn(3)), Key: [32]byte{byte(w.r.Intn(9))}}
		w.want("Open", w.c.Open(x), w.p.open(x))
		delete(w.ended, x.In)
	case 2, 3:
		id := w.r.Intn(8) - 1
		w.want("Sent", w.c.Sent(in, id), w.p.sent(in, id))
	case 4:
		x, e := w.c.Paid(out, secret)
		y, f := w.p.paid(out, secret)
		w.wantBoth("Paid", x, y, e, f)
	case 5:
		x, e := w.c.Failed(out, reason)
		y, f := w.p.failed(out, reason)
		w.wantBoth("Failed", x, y, e, f)
	case 6:
		x, e := w.c.Refuse(in, reason)
		y, f := w.p.refuse(in, reason)
		w.wantBoth("Refuse", x, y, e, f)
	case 7:
		e := w.c.Done(in)
		w.want("Done", e, w.p.done(in))
		if e == api.OK {
			delete(w.ended, in)
		}
	}
}

// follows asks for what follows: paid or failed is for good, and no Out is that of two.
func (w *walk) follows() {
	w.t.Helper()
	outs := map[api.Hook]int{}
	for x := range w.c.All() {
		if was := w.ended[x.In]; was != 0 && was != x.State {
			w.t.Fatalf("%v was in the state %d", x, was)
		}
		if x.State == api.CircuitPaid || x.State == api.CircuitFailed {
			w.ended[x.In] = x.State
		}
		if onWayOut(x) {
			outs[x.Out]++
		}
		if outs[x.Out] > 1 {
			w.t.Fatalf("%v is that of two", x.Out)
		}
	}
}

// P18.1 to P18.4: any calls, held against the document's words.
func TestWalk(t *testing.T) {
	seen := map[string]int{}
	for seed := range 40 {
		w := &walk{t: t, r: rand.New(rand.NewSource(int64(seed))), c: New(), p: &plain{}, ended: map[api.Hook]int{}, seen: seen}
		for range 600 {
			w.step()
			w.follows()
			w.p.check(t, w.c)
			if w.r.Intn(50) == 0 {
				w.c = w.c.Fork()
			}
		}
	}
	for _, name := range []string{"Open", "Sent", "Paid", "Failed", "Refuse", "Done"} {
		if seen[name+" OK"] < 100 || seen[name]-seen[name+" OK"] < 100 {
			t.Error(name, "was taken", seen[name+" OK"], "times of", seen[name])
		}
	}
}
