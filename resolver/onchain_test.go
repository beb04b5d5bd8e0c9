package resolver

import (
	"math/rand"
	"testing"

	"tollhouse/api"
	"tollhouse/chain"
	"tollhouse/deal"
	"tollhouse/mac"
)

// scene is a chain on which the money of a channel was spent, and how each of the two sees it.
type scene struct {
	t     *testing.T
	chain *chain.Chain
	terms api.Terms
	z     [2]api.Closed
	known [2][][32]byte
}

// published is a scene in which the commitment x, which both have tagged, is confirmed in some block.
func published(t *testing.T, r *rand.Rand, c *chain.Chain, d api.Terms, x api.Tx) *scene {
	t.Helper()
	for range r.Intn(4) {
		c.Block(nil)
	}
	if e := c.Submit(x); e != api.OK {
		t.Fatal("a commitment is refused", e)
	}
	c.Block(nil)
	if _, at, ok := c.Spent(d.Fund); !ok || at != c.Height() {
		t.Fatal("a commitment is not confirmed")
	}
	return &scene{t: t, chain: c, terms: d}
}

// anyScene is one with a view of its own; revoked tells that the holder's commitment was taken back.
func anyScene(t *testing.T, r *rand.Rand, holder int, revoked bool) *scene {
	t.Helper()
	d := anyTerms(r)
	v := anyView(r, d)
	c, e := chain.New(netSeed(), 5, []api.Out{deal.Fund(d)})
	if e != api.OK {
		t.Fatal("chain", e)
	}
	d.Fund = api.Ref{Tx: c.First()}
	x, e := deal.Commit(d, nodes[holder], mac.Hash(pointSecret()), v)
	if e != api.OK {
		t.Fatal("Commit", e)
	}
	x.Ins[0].TagA, x.Ins[0].TagB = c.Tag(nodes[0], chain.Id(x)), c.Tag(nodes[1], chain.Id(x))
	s := published(t, r, c, d, x)
	s.z[holder] = api.Closed{Kind: api.ClosedOwn, View: v, Tx: x, At: c.Height()}
	s.z[1-holder] = api.Closed{Kind: api.ClosedOther, View: v, Tx: x, At: c.Height()}
	if revoked {
		s.z[1-holder] = api.Closed{Kind: api.ClosedRevoked, Secret: pointSecret(), Tx: x, At: c.Height()}
	}
	return s
}

// spent tells which outputs of the commitment are.
func (s *scene) spent() []bool {
	l := make([]bool, len(s.z[0].Tx.Outs))
	for i := range l {
		_, _, l[i] = s.chain.Spent(s.ref(i))
	}
	return l
}

func (s *scene) ref(out int) api.Ref {
	return api.Ref{Tx: chain.Id(s.z[0].Tx), Out: out}
}

// claims is what i claims in the block of a height.
func (s *scene) claims(i, height int) []api.Tx {
	return Claims(s.terms, nodes[i], keyOf(i), s.z[i], height, s.spent(), s.known[i])
}

// submit gives the chain what i claims in the next block, as often as it likes; and asks that what is claimed later is refused now.
func (s *scene) submit(i int) {
	s.t.Helper()
	now := map[[32]byte]int{}
	for _, x := range s.claims(i, s.chain.Height()+1) {
		now[chain.Id(x)]++
	}
	for _, x := range s.claims(i, api.MaxExpiry) {
		if e := s.chain.Submit(x); now[chain.Id(x)] == 0 && e != api.ErrRule {
			s.t.Fatalf("%v is taken ahead of its block: %d", x, e)
		}
	}
	for range 2 {
		for _, x := range s.claims(i, s.chain.Height()+1) {
			if e := s.chain.Submit(x); e != api.OK && e != api.ErrTwice {
				s.t.Fatalf("%v of %v is refused for block %d: %d", x, s.z[i], s.chain.Height()+1, e)
			}
		}
	}
}

// got is what i has on the chain, of its claims.
func (s *scene) got(i int) int {
	sum := 0
	for out := range s.z[0].Tx.Outs {
		x, _, ok := s.chain.Spent(s.ref(out))
		if ok && x.Outs[0].Paths[0].A == nodes[i] {
			o, _, unspent := s.chain.Unspent(api.Ref{Tx: chain.Id(x)})
			if !unspent || len(o.Paths) != 1 || o.Paths[0] != (api.Path{A: nodes[i]}) {
				s.t.Fatal("a claim has another output", o)
			}
			sum += o.Amount
		}
	}
	return sum
}

// worth is what is left of an output that is claimed.
func (s *scene) worth(out int) int {
	return max(0, s.z[0].Tx.Outs[out].Amount-s.terms.Fee)
}

// P17.4: one who claims gets all that it has in a commitment, block by block as soon as it may; and nothing else.
func TestClaimedAlone(t *testing.T) {
	r := rand.New(rand.NewSource(4))
	for n := range 120 {
		i, holder := n%2, n/2%2
		s := anyScene(t, r, holder, false)
		s.known[i] = anyKnown(r)
		for range 30 {
			s.submit(i)
			claims := s.claims(i, s.chain.Height()+1)
			if block := s.chain.Block(nil); !sameTxs(block, claims) {
				t.Fatalf("block %v, claimed %v", block, claims)
			}
		}
		place := 1
		if i == holder {
			place = 0
		}
		want, over := s.worth(place), true
		for k, h := range s.z[i].View.Htlcs {
			_, known := plainSecret(s.known[i], h.Hash)
			if h.By == nodes[i] || known {
				want += s.worth(k + 2)
			} else if s.worth(k+2) > 0 {
				over = false
			}
		}
		if s.got(i) != want || s.got(1-i) != 0 {
			t.Fatalf("%d has %d of %v, want %d", i, s.got(i), s.z[i], want)
		}
		if Over(s.z[i], s.terms.Fee, s.spent()) != over {
			t.Fatalf("Over of %v is not %v", s.z[i], over)
		}
	}
}

// P17.4: of a commitment that was taken back the other one gets all in the next block, whatever the holder tries.
func TestClaimedRevoked(t *testing.T) {
	r := rand.New(rand.NewSource(5))
	for n := range 120 {
		holder := n % 2
		s := anyScene(t, r, holder, true)
		if s.terms.Delay == 1 {
			// The holder's first block is the next one too.
			continue
		}
		s.known[holder] = anyKnown(r)
		s.submit(holder)
		s.submit(1 - holder)
		s.chain.Block(nil)
		want := 0
		for out := range s.z[0].Tx.Outs {
			want += s.worth(out)
		}
		if s.got(1-holder) != want || s.got(holder) != 0 || !Over(s.z[1-holder], s.terms.Fee, s.spent()) {
			t.Fatalf("has %d, want %d", s.got(1-holder), want)
		}
	}
}

// P17.3, P17.4: both claim: each has what is its own, each Htlc is one's; who pays learns the secret of what was taken.
func TestClaimedByBoth(t *testing.T) {
	r := rand.New(rand.NewSource(6))
	shown, back := 0, 0
	for n := range 120 {
		holder := n % 2
		s := anyScene(t, r, holder, false)
		for i := range s.known {
			s.known[i] = anyKnown(r)
		}
		for range 30 {
			first := r.Intn(2)
			s.submit(first)
			s.submit(1 - first)
			s.chain.Block(nil)
		}
		if s.got(holder) < s.worth(0) || s.got(1-holder) < s.worth(1) {
			t.Fatal("one has less than its own")
		}
		for i := range s.z {
			if !Over(s.z[i], s.terms.Fee, s.spent()) {
				t.Fatalf("not over: %v", s.z[i])
			}
		}
		for k, h := range s.z[0].View.Htlcs {
			by, _, ok := s.chain.Spent(s.ref(k + 2))
			if !ok {
				if s.worth(k+2) > 0 {
					t.Fatal("an Htlc is nobody's")
				}
				continue
			}
			secret, ok := Shown(s.z[r.Intn(2)], k+2, by)
			taken := by.Outs[0].Paths[0].A != h.By
			if ok != taken || ok && mac.Hash(secret) != h.Hash || !ok && secret != [32]byte{} {
				t.Fatal("Shown", secret, ok)
			}
			if ok {
				shown++
			} else {
				back++
			}
		}
	}
	if shown < 40 || back < 40 {
		t.Error("shown", shown, "back", back)
	}
}

// P17.1, P17.4: any commitment that a channel ever had is published; the other one sorts what it finds on the chain, and has what it should.
func TestPublished(t *testing.T) {
	seen := map[int]int{}
	for seed := range 80 {
		r := rand.New(rand.NewSource(int64(seed)))
		p := newPair(t, terms(), [2][32]byte{seedOf(0), seedOf(1)})
		for n := range 80 {
			p.step(r, n)
		}
		holder := r.Intn(2)
		number := r.Intn(len(p.had[holder]))
		if r.Intn(3) == 0 {
			number = len(p.had[holder]) - 1
		}
		s := published(t, r, p.chain, p.terms, p.had[holder][number])
		x, at, _ := p.chain.Spent(p.terms.Fund)
		for i := range s.z {
			s.z[i] = Sort(p.c[i], x, at)
		}
		for n := range 80 {
			s.known[0], s.known[1] = append(s.known[0], secretOf(n)), append(s.known[1], secretOf(n))
		}
		for range 60 {
			s.submit(holder)
			s.submit(1 - holder)
			s.chain.Block(nil)
		}
		z := s.z[1-holder]
		seen[z.Kind]++
		all := 0
		for out := range z.Tx.Outs {
			all += s.worth(out)
		}
		if z.Kind == api.ClosedRevoked && (s.got(1-holder) != all || s.got(holder) != 0) {
			t.Fatalf("who published what was taken back has %d, the other one %d of %d", s.got(holder), s.got(1-holder), all)
		}
		// Who published what it took back, and the other one did not hear of it, does not know it again.
		if s.z[holder].Kind == api.ClosedOwn && s.got(0)+s.got(1) != all || !Over(z, s.terms.Fee, s.spent()) {
			t.Fatalf("%d and %d of %d; over: %v", s.got(0), s.got(1), all, Over(z, s.terms.Fee, s.spent()))
		}
		if z.Kind == api.ClosedStrange || number == len(p.had[holder])-1 && s.z[holder].Kind != api.ClosedOwn {
			t.Fatal("sorted as", s.z[0].Kind, s.z[1].Kind)
		}
	}
	if seen[api.ClosedOther] < 15 || seen[api.ClosedRevoked] < 15 {
		t.Error("seen", seen)
	}
}
