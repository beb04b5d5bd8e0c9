package chain

import (
	"math/rand"
	"reflect"
	"testing"

	"tollhouse/api"
	"tollhouse/mac"
)

// walk is a chain, what the document's words make of the same calls, and what was seen on the way.
type walk struct {
	t    *testing.T
	r    *rand.Rand
	c    *Chain
	p    *plain
	seen []numbered // that were submitted, or that the chain began with
	told map[api.Errno]int
	sum  int // what there was at the beginning
}

func secretOf(n int) [32]byte {
	return [32]byte{byte(n), 1}
}

func (w *walk) path() api.Path {
	p := api.Path{A: w.r.Intn(3)}
	if w.r.Intn(4) == 0 {
		p.B, p.Two = w.r.Intn(3), true
	}
	if w.r.Intn(4) == 0 {
		p.Height = w.r.Intn(len(w.p.blocks) + 4)
	}
	if w.r.Intn(4) == 0 {
		p.Delay = w.r.Intn(4)
	}
	if w.r.Intn(4) == 0 {
		p.Hash = mac.Hash(secretOf(w.r.Intn(3)))
	}
	return p
}

func (w *walk) out(sum int) api.Out {
	out := api.Out{Amount: sum}
	for range 1 + w.r.Intn(4) {
		out.Paths = append(out.Paths, w.path())
	}
	return out
}

// input is one of an output that was seen, likely with all that its path asks for.
func (w *walk) input() api.In {
	from := w.seen[w.r.Intn(len(w.seen))]
	in := api.In{Ref: api.Ref{Tx: from.id, Out: w.r.Intn(len(from.Outs))}}
	paths := from.Outs[in.Ref.Out].Paths
	in.Path = w.r.Intn(len(paths))
	for n := range 3 {
		if mac.Hash(secretOf(n)) == paths[in.Path].Hash {
			in.Secret = secretOf(n)
		}
	}
	switch w.r.Intn(40) {
	case 0:
		in.Ref.Out = w.r.Intn(7) - 1
	case 1:
		in.Ref.Tx[5]++
	case 2:
		in.Path = w.r.Intn(6) - 1
	case 3:
		in.Secret[0] ^= 1
	}
	return in
}

// tags puts tags into the inputs of x, as their paths ask for them.
func (w *walk) tags(x *api.Tx) {
	for i, in := range x.Ins {
		out, _, ok := w.p.output(in.Ref)
		if !ok || in.Path < 0 || in.Path >= len(out.Paths) {
			continue
		}
		x.Ins[i].TagA = w.p.tag(out.Paths[in.Path].A, Id(*x))
		if out.Paths[in.Path].Two {
			x.Ins[i].TagB = w.p.tag(out.Paths[in.Path].B, Id(*x))
		}
	}
}

func (w *walk) tx() api.Tx {
	if w.r.Intn(12) == 0 && len(w.seen) > 1 {
		return w.seen[1+w.r.Intn(len(w.seen)-1)].Tx
	}
	var x api.Tx
	sum := 0
	for range 1 + w.r.Intn(3) {
		in := w.input()
		x.Ins = append(x.Ins, in)
		out, _, _ := w.p.output(in.Ref)
		sum += out.Amount
	}
	for range 1 + w.r.Intn(3) {
		part := w.r.Intn(sum + 1)
		x.Outs = append(x.Outs, w.out(part))
		sum -= part
	}
	switch w.r.Intn(12) {
	case 0:
		x.Outs[0].Amount += sum + 1
	case 1:
		x.Outs[0].Paths[0].A = 3
	case 2:
		x.Outs[0].Amount += sum
	}
	w.tags(&x)
	if w.r.Intn(30) == 0 {
		x.Ins[0].TagA[3]++
	}
	return x
}

func (w *walk) submit() {
	x := w.tx()
	got, want := w.c.Submit(x), w.p.submit(x)
	if got != want {
		w.t.Fatalf("Submit(%v) = %d, want %d", x, got, want)
	}
	w.told[got]++
	if got == api.OK || got == api.ErrNone && w.r.Intn(20) == 0 {
		w.seen = append(w.seen, numbered{x, Id(x)})
	}
}

func (w *walk) block() {
	var hold []int
	for range w.r.Intn(4) {
		hold = append(hold, w.r.Intn(8)-1)
	}
	got, want := w.c.Block(hold), w.p.block(hold)
	if len(got)+len(want) > 0 && !reflect.DeepEqual(got, want) {
		w.t.Fatalf("Block(%v) = %v, want %v", hold, got, want)
	}
}

// same tells whether two answers are; a missing list is an empty one.
func same(a, b api.Tx) bool {
	return len(a.Ins)+len(b.Ins) == 0 && reflect.DeepEqual(a.Outs, b.Outs) || reflect.DeepEqual(a, b)
}

// look asks all that there is to ask.
func (w *walk) look() {
	c, p := w.c, w.p
	if c.Height() != len(p.blocks)-1 || c.First() != p.blocks[0][0].id || c.Fees() != p.fees() || c.All() != p.all() {
		w.t.Fatal("Height", c.Height(), "Fees", c.Fees(), "All", c.All(), "want", len(p.blocks)-1, p.fees(), p.all())
	}
	if pool := c.Pool(); len(pool)+len(p.pool) > 0 && !reflect.DeepEqual(pool, bare(p.pool)) {
		w.t.Fatalf("Pool = %v, want %v", pool, p.pool)
	}
	unspent := 0
	refs := map[api.Ref]bool{}
	for _, x := range w.seen {
		got, at, ok := c.Confirmed(x.id)
		want, wantAt, wantOk := p.confirmed(x.id)
		if !same(got, want) || at != wantAt || ok != wantOk {
			w.t.Fatalf("Confirmed = %v, %d, %v, want %v, %d, %v", got, at, ok, want, wantAt, wantOk)
		}
		for i := range len(x.Outs) + 1 {
			r := api.Ref{Tx: x.id, Out: i}
			sum := w.lookAt(r)
			if !refs[r] {
				unspent += sum
			}
			refs[r] = true
		}
	}
	// P13.5
	if unspent+c.Fees() != w.sum {
		w.t.Fatal("unspent", unspent, "Fees", c.Fees())
	}
}

// lookAt asks of one output; and is what it has, if it is unspent.
func (w *walk) lookAt(r api.Ref) int {
	by, at, spent := w.c.Spent(r)
	wantBy, wantAt, wantSpent := w.p.spent(r)
	if spent != wantSpent || at != wantAt || !same(by, wantBy) {
		w.t.Fatalf("Spent = %v, %d, %v, want %v, %d, %v", by, at, spent, wantBy, wantAt, wantSpent)
	}
	out, at, ok := w.c.Unspent(r)
	wantOut, wantAt, there := w.p.output(r)
	if spent {
		wantOut, wantAt, there = api.Out{}, 0, false
	}
	if ok != there || at != wantAt || !reflect.DeepEqual(out, wantOut) {
		w.t.Fatalf("Unspent = %v, %d, %v, want %v, %d, %v", out, at, ok, wantOut, wantAt, there)
	}
	return out.Amount
}

// once tells of P13.5 that no output is spent twice.
func (w *walk) once() {
	times := map[api.Ref]int{}
	counted := map[[32]byte]bool{}
	for _, x := range w.seen {
		confirmed, _, _ := w.c.Confirmed(x.id)
		if counted[x.id] {
			continue
		}
		counted[x.id] = true
		for _, in := range confirmed.Ins {
			times[in.Ref]++
			if times[in.Ref] > 1 {
				w.t.Fatal("spent twice", in.Ref)
			}
		}
	}
}

// P13.1 to P13.5: long rows of calls, held against what the document's words make of them.
func TestAgainstPlain(t *testing.T) {
	told := map[api.Errno]int{}
	for seed := range 80 {
		w := &walk{t: t, r: rand.New(rand.NewSource(int64(seed))), told: told, p: &plain{seed: secretOf(seed), nodes: 3}}
		w.p.blocks = [][]numbered{nil}
		begin := api.Tx{Outs: []api.Out{w.out(1 << 40), w.out(1 << 40), w.out(w.r.Intn(1000)), w.out(0)}}
		w.seen = []numbered{{begin, Id(begin)}}
		w.p.blocks[0] = w.seen[:1:1]
		w.sum = w.p.all()
		var e api.Errno
		if w.c, e = New(w.p.seed, 3, begin.Outs); e != api.OK {
			t.Fatal("New", e)
		}
		for range 150 {
			if w.r.Intn(3) == 0 {
				w.block()
			} else {
				w.submit()
			}
			w.look()
		}
		w.once()
	}
	for _, e := range []api.Errno{api.OK, api.ErrArg, api.ErrTwice, api.ErrNone, api.ErrSpent, api.ErrRule, api.ErrOver} {
		if told[e] < 100 {
			t.Errorf("Submit answered %d only %d times", e, told[e])
		}
	}
}
