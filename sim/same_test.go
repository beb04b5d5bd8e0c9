package sim

import (
	"math/rand"
	"reflect"
	"testing"

	"tollhouse/api"
)

// anyMove is some move, which often may be.
func anyMove(r *rand.Rand, nodes int) api.Move {
	m := api.Move{Kind: r.Intn(api.MoveAll + 2), A: r.Intn(nodes), B: r.Intn(nodes), N: r.Intn(4), Amount: r.Intn(200), Expiry: 40 + r.Intn(40)}
	if some := []int{api.MoveUp, api.MoveCarry, api.MoveCarry, api.MoveAll, api.MoveInvoice, api.MovePay, api.MoveSettle}; r.Intn(3) > 0 {
		m.Kind = some[r.Intn(len(some))]
	}
	if r.Intn(20) == 0 {
		m.A, m.N, m.Amount = r.Intn(12)-2, r.Intn(40)-10, r.Int()
	}
	if r.Intn(4) == 0 {
		m.Hold = []int{r.Intn(3)}
	}
	m.Bytes = make([]byte, r.Intn(40))
	r.Read(m.Bytes)
	return m
}

// P5, P25.4: the same moves make the same net; R1: whatever they are.
func TestSameMoves(t *testing.T) {
	happened := map[int]int{}
	for seed := range int64(25) {
		r := rand.New(rand.NewSource(seed))
		n := row(2+r.Intn(3), 0)
		n.Terms = append(n.Terms, between(9, 0, 1, 500, 400))
		x, y := begin(t, n), begin(t, n)
		if seed%2 == 0 {
			x.Calm(1)
			y.Calm(1)
		}
		for range 300 {
			m := anyMove(r, n.Nodes)
			e := x.Do(m)
			if f := y.Do(m); e != f {
				t.Fatalf("seed %d: %+v: %d and %d", seed, m, e, f)
			}
			if e == api.OK {
				happened[m.Kind]++
			}
		}
		if !reflect.DeepEqual(faceOf(x.Sim), faceOf(y.Sim)) {
			t.Fatalf("seed %d: two nets", seed)
		}
		x.Calm(3)
		y.Calm(3)
		if !reflect.DeepEqual(faceOf(x.Sim), faceOf(y.Sim)) {
			t.Fatalf("seed %d: two nets, when all is calm", seed)
		}
	}
	for kind := api.MoveUp; kind <= api.MoveAll; kind++ {
		if happened[kind] == 0 {
			t.Error("never happened", kind)
		}
	}
}

// R2: what is refused by the net changes nothing.
func TestRefusedMoves(t *testing.T) {
	refused := 0
	for seed := range int64(10) {
		r := rand.New(rand.NewSource(seed))
		n := row(3, 0)
		x := begin(t, n)
		for range 300 {
			m, ahead := anyMove(r, n.Nodes), faceOf(x.Sim)
			e := x.Do(m)
			// A node that is asked for something keeps that as an input, though it may refuse it.
			asked := (m.Kind >= api.MoveInvoice && m.Kind <= api.MoveClose || m.Kind == api.MoveTick) && x.isNode(m.A)
			if e == api.OK || asked {
				continue
			}
			refused++
			if !reflect.DeepEqual(faceOf(x.Sim), ahead) {
				t.Fatalf("seed %d: %+v: %d, and something changed", seed, m, e)
			}
		}
	}
	if refused < 300 {
		t.Error("too little happened", refused)
	}
}
