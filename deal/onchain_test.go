package deal

import (
	"math/rand"
	"testing"

	"tollhouse/api"
	"tollhouse/chain"
	"tollhouse/mac"
)

func secretOf(i int) [32]byte {
	return [32]byte{byte(i), 3}
}

func hashOf(i int) [32]byte {
	return mac.Hash(secretOf(i))
}

// pointSecret is the secret of all commitments' points.
func pointSecret() [32]byte {
	return [32]byte{8}
}

// published is a chain on which a commitment was confirmed in the first block.
func published(t *testing.T, d api.Terms, holder int, v api.View) (*chain.Chain, api.Terms, api.Tx) {
	t.Helper()
	outs := make([]api.Out, d.Fund.Out+1)
	for i := range outs {
		outs[i] = api.Out{Paths: []api.Path{{}}}
	}
	outs[d.Fund.Out] = Fund(d)
	c, e := chain.New([32]byte{1}, 8, outs)
	if e != api.OK {
		t.Fatal("New", e)
	}
	d.Fund.Tx = c.First()
	x, e := Commit(d, holder, mac.Hash(pointSecret()), v)
	if e != api.OK {
		t.Fatal("Commit", e)
	}
	x.Ins[0].TagA = c.Tag(d.A, chain.Id(x))
	if e := c.Submit(x); e != api.ErrRule {
		t.Fatal("a commitment that one of the two has not tagged", e)
	}
	x.Ins[0].TagB = c.Tag(d.B, chain.Id(x))
	if e := c.Submit(x); e != api.OK {
		t.Fatal("a commitment is refused", e)
	}
	if l := c.Block(nil); len(l) != 1 {
		t.Fatal("a commitment is not confirmed")
	}
	return c, d, x
}

// try is what the chain answers to node's claim of one output of x by a path, with a secret.
func try(t *testing.T, c *chain.Chain, d api.Terms, node int, x api.Tx, out, path int, secret [32]byte) api.Errno {
	t.Helper()
	in := api.In{Ref: api.Ref{Tx: chain.Id(x), Out: out}, Path: path, Secret: secret}
	claim, e := Claim(d, node, []api.In{in}, x.Outs[out].Amount)
	if e != api.OK {
		t.Fatal("Claim", e)
	}
	claim.Ins[0].TagA = c.Tag(node, chain.Id(claim))
	return c.Submit(claim)
}

// P14.4: behind a commitment of the holder the other one gets at once what it has and, with the point's secret, all else; the holder has nothing yet.
func TestTakenBack(t *testing.T) {
	r := rand.New(rand.NewSource(8))
	for range 60 {
		d := anyTerms(r)
		// A Delay of 1 is the next block, which is the other one's first one too.
		d.Delay++
		v := anyView(r, d)
		for _, holder := range []int{d.A, d.B} {
			c, d, x := published(t, d, holder, v)
			other := Other(d, holder)
			for out := range x.Outs {
				for path := range x.Outs[out].Paths {
					secret := secretOf(out - 2)
					if e := try(t, c, d, holder, x, out, path, secret); e != api.ErrRule {
						t.Fatalf("the holder of %v has output %d by path %d at once: %d", v, out, path, e)
					}
				}
			}
			claim := takeAll(t, c, d, other, x)
			if l := c.Block(nil); len(l) != 1 || chain.Id(l[0]) != chain.Id(claim) {
				t.Fatal("what was taken back is not confirmed")
			}
			sum := 0
			for _, out := range x.Outs {
				sum += out.Amount
			}
			got, _, ok := c.Unspent(api.Ref{Tx: chain.Id(claim)})
			if !ok || got.Amount != max(0, sum-d.Fee) || got.Paths[0] != (api.Path{A: other}) {
				t.Fatal("the other one has", got, ok)
			}
		}
	}
}

// takeAll submits one claim of all outputs of x for the other one, with the point's secret.
func takeAll(t *testing.T, c *chain.Chain, d api.Terms, other int, x api.Tx) api.Tx {
	t.Helper()
	var ins []api.In
	sum := 0
	for i, out := range x.Outs {
		in := api.In{Ref: api.Ref{Tx: chain.Id(x), Out: i}}
		if i != 1 {
			in.Path, in.Secret = len(out.Paths)-1, pointSecret()
		}
		ins = append(ins, in)
		sum += out.Amount
	}
	claim, e := Claim(d, other, ins, sum)
	if e != api.OK {
		t.Fatal("Claim", e)
	}
	id := chain.Id(claim)
	for i := range claim.Ins {
		claim.Ins[i].TagA = c.Tag(other, id)
	}
	if e := c.Submit(claim); e != api.OK {
		t.Fatal("the other one does not get all", e)
	}
	return claim
}

// P14.2: when each of the two may have what, without the point's secret.
func TestHeights(t *testing.T) {
	r := rand.New(rand.NewSource(9))
	for range 12 {
		d := anyTerms(r)
		v := anyView(r, d)
		for height := 1; height < 16; height++ {
			for _, holder := range []int{d.A, d.B} {
				c, d, x := published(t, d, holder, v)
				for c.Height() < height {
					c.Block(nil)
				}
				q := question{t: t, c: c, d: d, x: x}
				q.askAll(holder, v)
			}
		}
	}
}

// question is asked of the chain on which the commitment x is.
type question struct {
	t *testing.T
	c *chain.Chain
	d api.Terms
	x api.Tx
}

// askAll asks of all outputs of a commitment of holder. Secrets and paths are no part of a claim's number, so what is refused is asked first.
func (q question) askAll(holder int, v api.View) {
	other := Other(q.d, holder)
	next := q.c.Height() + 1
	waits := func(node int) bool { return node == holder && next < 1+q.d.Delay }
	q.ask(other, 0, 0, [32]byte{}, false)
	q.ask(other, 0, 1, [32]byte{}, false)
	q.ask(holder, 1, 0, [32]byte{}, false)
	q.ask(holder, 0, 0, [32]byte{}, !waits(holder))
	q.ask(other, 1, 0, [32]byte{}, true)
	for i, h := range v.Htlcs {
		place, _ := Place(v, h.By, h.Id)
		payer, payee := h.By, Other(q.d, h.By)
		q.ask(payee, place, 0, secretOf(i+1), false)
		q.ask(payee, place, 1, secretOf(i), false)
		q.ask(payee, place, 2, secretOf(i), false)
		q.ask(payer, place, 0, secretOf(i), false)
		q.ask(payer, place, 2, secretOf(i), false)
		q.ask(payee, place, 0, secretOf(i), !waits(payee))
		q.ask(payer, place, 1, [32]byte{}, next >= h.Expiry && !waits(payer))
	}
}

// ask asks whether node may have an output by a path, in the next block.
func (q question) ask(node, out, path int, secret [32]byte, may bool) {
	q.t.Helper()
	want := api.ErrRule
	if may {
		want = api.OK
	}
	if e := try(q.t, q.c, q.d, node, q.x, out, path, secret); e != want {
		q.t.Fatalf("node %d, output %d by path %d for block %d: %d, want %d", node, out, path, q.c.Height()+1, e, want)
	}
}
