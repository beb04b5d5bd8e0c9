package policy

import (
	"math"
	"testing"

	"tollhouse/api"
)

// some is rules that may be.
func some() api.Rules {
	return api.Rules{Fees: api.Fees{Base: 10, Rate: 1000}, Delta: 5, Grace: 3, Far: 100}
}

// came is what came in, and what its onion told.
type came struct {
	rules                  api.Rules
	hop                    api.Hop
	amount, expiry, height int
}

// goesOn is handed on, by just so much: the fee of 20000 is 30.
func goesOn() came {
	return came{some(), api.Hop{Channel: 1, Amount: 20000, Expiry: 50}, 20030, 55, 46}
}

// stays is kept, by just so much.
func stays() came {
	return came{some(), api.Hop{Amount: 20000, Total: 20000, Expiry: 50}, 20000, 50, 46}
}

// change is a way in which something is another one, and the reason for which it is refused then.
type change struct {
	name string
	make func(x *came)
	want int
}

// both are changes of what is handed on and of what is kept.
func both() []change {
	return []change{
		{"as it is", func(x *came) {}, 0},
		{"no rules", func(x *came) { x.rules = api.Rules{} }, api.ReasonOnion},
		{"rules that may not be", func(x *came) { x.rules.Delta = 0 }, api.ReasonOnion},
		{"fees that may not be", func(x *came) { x.rules.Fees.Base = -1 }, api.ReasonOnion},
		{"an amount below 0", func(x *came) { x.amount = -1 }, api.ReasonOnion},
		{"an amount far below 0", func(x *came) { x.amount = math.MinInt }, api.ReasonOnion},
		{"an expiry below 0", func(x *came) { x.expiry = -1 }, api.ReasonOnion},
		{"an expiry far below 0", func(x *came) { x.expiry = math.MinInt }, api.ReasonOnion},
		{"a height below 0", func(x *came) { x.height = -1 }, api.ReasonOnion},
		{"a height far below 0", func(x *came) { x.height = math.MinInt }, api.ReasonOnion},
		{"an expiry beyond all", func(x *came) { x.expiry = api.MaxExpiry + 1 }, api.ReasonOnion},
		{"an expiry far beyond all", func(x *came) { x.expiry = math.MaxInt }, api.ReasonOnion},
		{"a height beyond all", func(x *came) { x.height = api.MaxExpiry + 1 }, api.ReasonOnion},
		{"a height far beyond all", func(x *came) { x.height = math.MaxInt }, api.ReasonOnion},
		{"a channel below 0", func(x *came) { x.hop.Channel = -1 }, api.ReasonOnion},
		{"the last expiry", func(x *came) { x.expiry = api.MaxExpiry }, api.ReasonFar},
		{"the last height", func(x *came) { x.height = api.MaxExpiry }, api.ReasonSoon},
		{"just not too far", func(x *came) { x.expiry = 146 }, 0},
		{"just too far", func(x *came) { x.expiry = 147 }, api.ReasonFar},
		{"a nearer Far", func(x *came) { x.rules.Far = x.expiry - x.height }, 0},
		{"a Far that is too near", func(x *came) { x.rules.Far = x.expiry - x.height - 1 }, api.ReasonFar},
		{"just too soon", func(x *came) { x.height++ }, api.ReasonSoon},
		{"more Grace", func(x *came) { x.rules.Grace++ }, api.ReasonSoon},
		{"far too soon", func(x *came) { x.height = 1000 }, api.ReasonSoon},
		{"no amount at all", func(x *came) { x.amount = 0 }, -1},
		{"one less comes in", func(x *came) { x.amount-- }, -1},
		{"one more comes in", func(x *came) { x.amount++ }, 0},
		{"as much as can be", func(x *came) { x.amount = math.MaxInt }, 0},
		{"one block less", func(x *came) { x.expiry--; x.height-- }, api.ReasonDelta},
		{"one block more", func(x *came) { x.expiry++ }, 0},
		{"a hop of nothing", func(x *came) { x.hop.Amount = 0 }, api.ReasonAmount},
		{"a hop of less than nothing", func(x *came) { x.hop.Amount = math.MinInt }, api.ReasonAmount},
		{"a hop far ahead", func(x *came) { x.hop.Expiry = math.MaxInt }, api.ReasonDelta},
	}
}

// reasons asks of each change for its reason; one of -1 is taken as less.
func reasons(t *testing.T, ask func(x came) int, from func() came, less int, changes []change) {
	t.Helper()
	for _, c := range changes {
		x := from()
		c.make(&x)
		want := c.want
		if want < 0 {
			want = less
		}
		if got := ask(x); got != want {
			t.Errorf("%s: %d, want %d", c.name, got, want)
		}
	}
}

func forward(x came) int { return Forward(x.rules, x.hop, x.amount, x.expiry, x.height) }
func final(x came) int   { return Final(x.rules, x.hop, x.amount, x.expiry, x.height) }

// P19.1: why something is not handed on, at all edges.
func TestForward(t *testing.T) {
	reasons(t, forward, goesOn, api.ReasonFee, both())
	reasons(t, forward, goesOn, 0, []change{
		{"no channel", func(x *came) { x.hop.Channel = 0 }, api.ReasonOnion},
		{"any channel", func(x *came) { x.hop.Channel = math.MaxInt }, 0},
		{"a hop a block too late", func(x *came) { x.hop.Expiry++ }, api.ReasonDelta},
		{"a hop a block too soon", func(x *came) { x.hop.Expiry-- }, api.ReasonSoon},
		{"a hop far too soon", func(x *came) { x.hop.Expiry = math.MinInt }, api.ReasonSoon},
		{"a hop below the height", func(x *came) { x.hop.Expiry = 20 }, api.ReasonSoon},
		{"a hop that expires behind it", func(x *came) { x.hop.Expiry = 60 }, api.ReasonDelta},
		{"more Delta", func(x *came) { x.rules.Delta++ }, api.ReasonDelta},
		{"less Delta", func(x *came) { x.rules.Delta-- }, 0},
		{"more goes on", func(x *came) { x.hop.Amount++ }, api.ReasonFee},
		{"a greater base", func(x *came) { x.rules.Fees.Base++ }, api.ReasonFee},
		{"all that can be goes on", func(x *came) { x.hop.Amount, x.amount = math.MaxInt, math.MaxInt }, api.ReasonFee},
		{"all that can be goes on, for nothing", func(x *came) {
			x.hop.Amount, x.amount, x.rules.Fees = math.MaxInt, math.MaxInt, api.Fees{}
		}, 0},
		{"the base is all", func(x *came) { x.rules.Fees.Base, x.amount = math.MaxInt, math.MaxInt }, api.ReasonFee},
		{"the hop's other fields", func(x *came) {
			x.hop.Total, x.hop.Index, x.hop.Secret = -1, -1, [32]byte{1}
		}, 0},
	})
}

// P19.2: why something is not kept, at all edges.
func TestFinal(t *testing.T) {
	reasons(t, final, stays, api.ReasonAmount, both())
	reasons(t, final, stays, 0, []change{
		{"a channel", func(x *came) { x.hop.Channel = 1 }, api.ReasonOnion},
		{"a hop a block later", func(x *came) { x.hop.Expiry++ }, api.ReasonDelta},
		{"a hop a block sooner", func(x *came) { x.hop.Expiry-- }, 0},
		{"a hop far sooner", func(x *came) { x.hop.Expiry = math.MinInt }, 0},
		{"more is wanted", func(x *came) { x.hop.Amount++; x.hop.Total++ }, api.ReasonAmount},
		{"less is wanted", func(x *came) { x.hop.Amount-- }, 0},
		{"more in all", func(x *came) { x.hop.Total = math.MaxInt }, 0},
		{"less in all", func(x *came) { x.hop.Total-- }, api.ReasonAmount},
		{"nothing in all", func(x *came) { x.hop.Total = math.MinInt }, api.ReasonAmount},
		{"one of one", func(x *came) { x.hop.Amount, x.hop.Total, x.amount = 1, 1, 1 }, 0},
		{"nothing of nothing", func(x *came) { x.hop.Amount, x.hop.Total, x.amount = 0, 0, 0 }, api.ReasonAmount},
		{"less than nothing", func(x *came) { x.hop.Amount, x.hop.Total, x.amount = -5, -5, 0 }, api.ReasonAmount},
		{"no Delta is asked for", func(x *came) { x.rules.Delta = 1000 }, 0},
		{"no fees are asked for", func(x *came) { x.rules.Fees.Base = math.MaxInt }, 0},
		{"the hop's other fields", func(x *came) {
			x.hop.Index, x.hop.Secret, x.hop.Set, x.hop.Share = -1, [32]byte{1}, [32]byte{2}, [32]byte{3}
		}, 0},
	})
}

// P19.1, P19.2: of several reasons the first one that the chapter names.
func TestOrder(t *testing.T) {
	x := came{some(), api.Hop{Channel: -1, Amount: -1, Expiry: 200}, 0, 201, 100}
	y := x
	for _, step := range []struct {
		mend            func(x *came)
		forward, finals int
	}{
		{func(x *came) {}, api.ReasonOnion, api.ReasonOnion},
		{func(x *came) { x.hop.Channel = 1 }, api.ReasonFar, api.ReasonOnion},
		{func(x *came) { x.height = 199 }, api.ReasonSoon, api.ReasonOnion},
		{func(x *came) { x.height = 196 }, api.ReasonDelta, api.ReasonOnion},
		{func(x *came) { x.expiry = 205 }, api.ReasonAmount, api.ReasonOnion},
		{func(x *came) { x.hop.Amount = 1 }, api.ReasonFee, api.ReasonOnion},
		{func(x *came) { x.amount = 11 }, 0, api.ReasonOnion},
	} {
		step.mend(&x)
		if got := forward(x); got != step.forward {
			t.Errorf("Forward: %d, want %d", got, step.forward)
		}
		if got := final(x); got != step.finals {
			t.Errorf("Final: %d, want %d", got, step.finals)
		}
	}
	for _, step := range []struct {
		mend func(x *came)
		want int
	}{
		{func(x *came) { x.hop.Expiry = 300 }, api.ReasonOnion},
		{func(x *came) { x.hop.Channel = 0 }, api.ReasonFar},
		{func(x *came) { x.height = 198 }, api.ReasonSoon},
		{func(x *came) { x.height = 197 }, api.ReasonDelta},
		{func(x *came) { x.hop.Expiry = 201 }, api.ReasonAmount},
		{func(x *came) { x.hop.Amount, x.hop.Total, x.amount = 7, 7, 7 }, 0},
	} {
		step.mend(&y)
		if got := final(y); got != step.want {
			t.Errorf("Final: %d, want %d", got, step.want)
		}
	}
}

// P19.3: behind which reasons another part may be tried.
func TestRetry(t *testing.T) {
	again := map[int]bool{2: true, 3: true, 4: true, 5: true, 9: true}
	for reason := -20; reason <= 300; reason++ {
		if Retry(reason) != again[reason] {
			t.Error("Retry", reason)
		}
	}
	if Retry(math.MinInt) || Retry(math.MaxInt) || Retry(1<<32+2) {
		t.Error("Retry of what is no reason")
	}
}
