package registry

import (
	"math"
	"slices"
	"testing"

	"tollhouse/api"
	"tollhouse/share"
)

// change makes a part another one.
type change = func(p *api.Part)

// refusals asks of changes of a part that is taken whether it is failed for a reason, and nothing else then.
func refusals(t *testing.T, g *Registry, from api.Part, height, reason int, changes map[string]change) {
	t.Helper()
	held := g.Held()
	state, got := g.State(from.Hop.Secret)
	for name, make := range changes {
		p := from
		make(&p)
		wantActs(t, name, g.Take(p, height, 1), api.Act{In: p.In, Reason: reason})
		if g.Holds(p.In) || g.Held() != held {
			t.Errorf("%s: it is held", name)
		}
		wantState(t, name, g, from.Hop.Secret, state, got)
	}
}

// P20.2: an invoice that is not known, or another hash or set than it has.
func TestTakeUnknown(t *testing.T) {
	plain, hold, set := want(1, api.InvoicePlain), want(2, api.InvoiceHold), want(3, api.InvoiceSet)
	g := fresh(t, plain, hold, set)
	for _, i := range []api.Invoice{plain, hold} {
		refusals(t, g, piece(i, 1, 100, 100), 1, api.ReasonUnknown, map[string]change{
			"no such Secret":      func(p *api.Part) { p.Hop.Secret = nameOf(9) },
			"no Secret":           func(p *api.Part) { p.Hop.Secret = [32]byte{} },
			"the hash as Secret":  func(p *api.Part) { p.Hop.Secret = p.Hash },
			"another hash":        func(p *api.Part) { p.Hash = hashOf(9) },
			"no hash":             func(p *api.Part) { p.Hash = [32]byte{} },
			"a set":               func(p *api.Part) { p.Hop.Set = nameOf(1) },
			"the end of a name":   func(p *api.Part) { p.Hop.Set[31] = 1 },
			"and a wrong channel": func(p *api.Part) { p.Hash, p.Hop.Channel = hashOf(9), 1 },
			"and no amount":       func(p *api.Part) { p.Hop.Set, p.Amount = nameOf(9), -1 },
		})
	}
	named := piece(set, 1, 100, 100)
	named.Hop.Set = nameOf(8)
	refusals(t, g, named, 1, api.ReasonUnknown, map[string]change{
		"no set":              func(p *api.Part) { p.Hop.Set = [32]byte{} },
		"no such Secret":      func(p *api.Part) { p.Hop.Secret = nameOf(9) },
		"and a wrong channel": func(p *api.Part) { p.Hop.Set, p.Hop.Channel = [32]byte{}, 1 },
	})
	g.Cancel(plain.Secret)
	refusals(t, g, piece(plain, 1, 100, 100), 1, api.ReasonUnknown, map[string]change{
		"cancelled, too": func(p *api.Part) { p.Hash = hashOf(9) },
	})
}

// P20.2: what policy.Final tells.
func TestTakeFinal(t *testing.T) {
	i := want(1, api.InvoicePlain)
	g := fresh(t, i)
	ok := piece(i, 1, 100, 100)
	refusals(t, g, ok, 10, api.ReasonOnion, map[string]change{
		"a channel":     func(p *api.Part) { p.Hop.Channel = 1 },
		"less than 0":   func(p *api.Part) { p.Amount = -1 },
		"expired ahead": func(p *api.Part) { p.Expiry = -1 },
		"never expires": func(p *api.Part) { p.Expiry = math.MaxInt },
	})
	refusals(t, g, ok, 10, api.ReasonFar, map[string]change{
		"too far": func(p *api.Part) { p.Expiry = 111 },
	})
	refusals(t, g, ok, 38, api.ReasonSoon, map[string]change{
		"just too soon": func(p *api.Part) {},
		"far too soon":  func(p *api.Part) { p.Expiry = 0 },
	})
	refusals(t, g, ok, 10, api.ReasonDelta, map[string]change{
		"sooner than was told": func(p *api.Part) { p.Hop.Expiry = 41 },
	})
	refusals(t, g, ok, 10, api.ReasonAmount, map[string]change{
		"less than was told": func(p *api.Part) { p.Amount = 99 },
		"nothing was told":   func(p *api.Part) { p.Hop.Amount = 0 },
		"less in all":        func(p *api.Part) { p.Hop.Total = 99 },
	})
	g.Cancel(i.Secret)
	refusals(t, g, ok, 38, api.ReasonSoon, map[string]change{
		"and gone": func(p *api.Part) {},
	})
	refusals(t, g, ok, 10, api.ReasonAmount, map[string]change{
		"and gone": func(p *api.Part) { p.Amount = 99 },
	})
}

// P20.2: at which heights.
func TestTakeHeights(t *testing.T) {
	i := want(1, api.InvoiceHold)
	for _, c := range []struct{ height, expiry, till, reason int }{
		{37, 40, 50, 0},
		{0, 100, 50, 0},
		{0, 101, 50, api.ReasonFar},
		// Below 0 is 0.
		{-5, 100, 50, 0},
		{math.MinInt, 100, 0, 0},
		{-1, 101, 50, api.ReasonFar},
		// Beyond MaxExpiry is MaxExpiry.
		{api.MaxExpiry, api.MaxExpiry, 50, api.ReasonSoon},
		{math.MaxInt, api.MaxExpiry, 50, api.ReasonSoon},
		{math.MaxInt, api.MaxExpiry + 1, 50, api.ReasonOnion},
		{api.MaxExpiry - 3, api.MaxExpiry, api.MaxExpiry, 0},
		// Till when the invoice is.
		{50, 60, 50, 0},
		{51, 60, 50, api.ReasonGone},
		{1, 60, 0, api.ReasonGone},
		{0, 60, 0, 0},
	} {
		i.Expiry = c.till
		g := fresh(t, i)
		p := piece(i, 1, 50, 100)
		p.Expiry = c.expiry
		var acts []api.Act
		if c.reason != 0 {
			acts = []api.Act{failed(1, c.reason)}
		}
		p.Hop.Expiry = 0
		wantActs(t, "Take", g.Take(p, c.height, 1), acts...)
		if g.Holds(p.In) != (c.reason == 0) {
			t.Errorf("%v: held is %v", c, g.Holds(p.In))
		}
	}
	// What is beyond MaxExpiry is no height that policy could not tell of.
	r := api.Rules{Delta: 1, Far: 1}
	g, _ := New(2, r, 1)
	i.Expiry = api.MaxExpiry
	add(g, i)
	p := piece(i, 1, 50, 100)
	p.Expiry, p.Hop.Expiry = api.MaxExpiry, 0
	wantActs(t, "at the end", g.Take(p, math.MaxInt, 1), failed(1, api.ReasonSoon))
}

// P20.2: an invoice that is not open.
func TestTakeGone(t *testing.T) {
	plain, hold, off := want(1, api.InvoicePlain), want(2, api.InvoiceHold), want(3, api.InvoicePlain)
	g := fresh(t, plain, hold, off)
	g.Cancel(off.Secret)
	wantActs(t, "settled", g.Take(piece(plain, 1, 100, 100), 1, 1), paid(1, secretOf(1)))
	wantActs(t, "held", g.Take(piece(hold, 2, 100, 100), 1, 1))
	for _, i := range []api.Invoice{plain, hold, off} {
		wantActs(t, "gone", g.Take(piece(i, 7, 100, 100), 1, 1), failed(7, api.ReasonGone))
		wantActs(t, "gone, and of another amount", g.Take(piece(i, 7, 1, 1000), 1, 1), failed(7, api.ReasonGone))
	}
	wantState(t, "settled", g, plain.Secret, api.InvoiceSettled, 100)
	wantState(t, "held", g, hold.Secret, api.InvoiceHeld, 100)
	wantState(t, "cancelled", g, off.Secret, api.InvoiceCancelled, 0)
}

// P20.2: other amounts than the invoice and the set have.
func TestTakeAmount(t *testing.T) {
	plain, hold := want(1, api.InvoicePlain), want(2, api.InvoiceHold)
	for _, i := range []api.Invoice{plain, hold} {
		g := fresh(t, plain, hold)
		first := piece(i, 1, 50, 150)
		more := func(amount, total int) change {
			return func(p *api.Part) { p.Amount, p.Hop.Amount, p.Hop.Total = amount, amount, total }
		}
		// The first one of its set.
		refusals(t, g, first, 1, api.ReasonAmount, map[string]change{
			"less than the invoice":  more(50, 99),
			"more than twice":        more(50, 201),
			"far more than twice":    more(50, math.MaxInt),
			"the part itself":        func(p *api.Part) { p.Amount = 201 },
			"all there is":           func(p *api.Part) { p.Amount = math.MaxInt },
			"all there is, and told": more(math.MaxInt, math.MaxInt),
		})
		wantActs(t, "the first one", g.Take(first, 1, 1))
		second := piece(i, 2, 50, 150)
		refusals(t, g, second, 1, api.ReasonAmount, map[string]change{
			"less in all than the other one":     more(50, 149),
			"more in all than the other one":     more(50, 151),
			"as the invoice, not the other one":  more(50, 100),
			"more than twice together":           func(p *api.Part) { p.Amount = 151 },
			"more than twice together, and told": more(151, 151),
			"it would run over":                  func(p *api.Part) { p.Amount = math.MaxInt },
		})
		wantState(t, "one part", g, i.Secret, api.InvoiceOpen, 50)
		// An Index of its own is asked for of an InvoiceSet alone.
		second.Hop.Index, second.Amount = 1, 150
		acts := g.Take(second, 1, 1)
		if i.Kind == api.InvoicePlain {
			wantActs(t, "twice as much", acts, paid(1, secretOf(1)), paid(2, secretOf(1)))
			wantState(t, "twice as much", g, i.Secret, api.InvoiceSettled, 200)
		} else {
			wantActs(t, "twice as much", acts)
			wantState(t, "twice as much", g, i.Secret, api.InvoiceHeld, 200)
		}
	}
}

// P20.2: the greatest invoice, and twice as much.
func TestTakeGreatest(t *testing.T) {
	for _, total := range []int{1 << 48, 1 << 49} {
		i := want(1, api.InvoicePlain)
		i.Amount = 1 << 48
		g := fresh(t, i)
		wantActs(t, "one more", g.Take(piece(i, 1, 1<<49, 1<<49+1), 1, 1), failed(1, api.ReasonAmount))
		wantActs(t, "one less", g.Take(piece(i, 1, 1, 1<<48-1), 1, 1), failed(1, api.ReasonAmount))
		wantActs(t, "all but one", g.Take(piece(i, 1, total-1, total), 1, 1))
		wantActs(t, "it would run over", g.Take(api.Part{In: hook(2), Amount: math.MaxInt, Expiry: 40, Hash: i.Hash, Hop: api.Hop{Amount: 1, Total: total, Secret: i.Secret}}, 1, 1), failed(2, api.ReasonAmount))
		wantActs(t, "the last one", g.Take(piece(i, 2, 1, total), 1, 1), paid(1, secretOf(1)), paid(2, secretOf(1)))
		wantState(t, "all", g, i.Secret, api.InvoiceSettled, total)
	}
}

// P20.2: at most MaxParts in a set.
func TestTakeParts(t *testing.T) {
	set := want(3, api.InvoiceSet)
	for _, i := range []api.Invoice{want(1, api.InvoicePlain), want(2, api.InvoiceHold), set} {
		g := fresh(t, i)
		of := func(id, amount int) api.Part {
			p := piece(i, id, amount, 100)
			if i.Kind == api.InvoiceSet {
				p.Hop.Set = nameOf(8)
			}
			return p
		}
		for id := range 16 {
			wantActs(t, "Take", g.Take(of(id, 1), 1, 1))
		}
		wantActs(t, "the 17th", g.Take(of(16, 1), 1, 1), failed(16, api.ReasonAmount))
		wantActs(t, "the 17th, with all", g.Take(of(16, 84), 1, 1), failed(16, api.ReasonAmount))
		wantState(t, "16", g, i.Secret, api.InvoiceOpen, 16)
		// 15, and a last one that makes it whole.
		g = fresh(t, i)
		for id := range 15 {
			g.Take(of(id, 1), 1, 1)
		}
		if acts := g.Take(of(15, 85), 1, 1); len(acts) != 16 && i.Kind != api.InvoiceHold {
			t.Error("the 16th", acts)
		}
	}
}

// P20.2: at most MaxHeld are held in all.
func TestTakeHeld(t *testing.T) {
	set, plain := want(1, api.InvoiceSet), want(2, api.InvoicePlain)
	set.Amount = 1000
	g := fresh(t, set, plain)
	for id := range api.MaxHeld - 1 {
		p := piece(set, id, 1, 1000)
		p.Hop.Set = nameOf(id / 16)
		wantActs(t, "Take", g.Take(p, 1, id))
	}
	wantActs(t, "the 128th", g.Take(piece(plain, 127, 60, 100), 1, 1))
	if g.Held() != 128 {
		t.Error("Held", g.Held())
	}
	wantActs(t, "the 129th", g.Take(piece(plain, 128, 40, 100), 1, 1), failed(128, api.ReasonNext))
	wantActs(t, "the 129th, of another amount", g.Take(piece(plain, 128, 40, 101), 1, 1), failed(128, api.ReasonAmount))
	wantActs(t, "one that is held", g.Take(piece(plain, 127, 60, 100), 1, 1))
	wantState(t, "not whole", g, plain.Secret, api.InvoiceOpen, 60)
	if acts := g.Tick(1, 10); len(acts) != 16 || g.Held() != 112 {
		t.Error("Tick", acts, g.Held())
	}
	wantActs(t, "room again", g.Take(piece(plain, 128, 40, 100), 1, 1), paid(127, secretOf(2)), paid(128, secretOf(2)))
	if g.Held() != 111 {
		t.Error("Held", g.Held())
	}
}

// P20.2: nothing, if it is held already, whatever it says this time.
func TestTakeTwice(t *testing.T) {
	i := want(1, api.InvoicePlain)
	g := fresh(t, i, want(2, api.InvoicePlain))
	p := piece(i, 1, 60, 100)
	wantActs(t, "once", g.Take(p, 1, 1))
	wantActs(t, "twice", g.Take(p, 1, 1))
	wantActs(t, "another one of the same In", g.Take(piece(want(2, api.InvoicePlain), 1, 100, 100), 1, 1))
	wantActs(t, "none of the same In", g.Take(api.Part{In: hook(1)}, 1, 1))
	wantState(t, "once", g, i.Secret, api.InvoiceOpen, 60)
	// The same id of another channel is another one.
	q := piece(i, 1, 40, 100)
	q.In.Channel = 2
	wantActs(t, "whole", g.Take(q, 1, 1), paid(1, secretOf(1)), api.Act{In: q.In, Pay: true, Secret: secretOf(1)})
	wantActs(t, "behind", g.Take(p, 1, 1), failed(1, api.ReasonGone))
}

// P20.2, P20.6: the document's example, and other ways to be paid in parts.
func TestPlain(t *testing.T) {
	i := want(1, api.InvoicePlain)
	for _, amounts := range [][]int{{60, 40}, {100}, {200}, {99, 101}, {1, 1, 98}, {50, 49, 101}} {
		g := fresh(t, i)
		got := 0
		for id, amount := range amounts {
			wantState(t, "on its way", g, i.Secret, api.InvoiceOpen, got)
			got += amount
			// Ids fall: parts are paid in the order in which they came.
			acts := g.Take(piece(i, 90-id, amount, max(100, amount)), 1, 1)
			if amount > 100 && id > 0 {
				// Its Total is another one: what came more is not in what the onion told.
				wantActs(t, "another Total", acts, failed(90-id, api.ReasonAmount))
				p := piece(i, 90-id, 1, 100)
				p.Amount = amount
				acts = g.Take(p, 1, 1)
			}
			if id < len(amounts)-1 {
				wantActs(t, "on its way", acts)
				continue
			}
			var all []api.Act
			for id := range amounts {
				all = append(all, paid(90-id, secretOf(1)))
			}
			wantActs(t, "whole", acts, all...)
		}
		wantState(t, "settled", g, i.Secret, api.InvoiceSettled, got)
		if g.Held() != 0 || g.Holds(hook(90)) {
			t.Error("something is held")
		}
		wantActs(t, "settled once", g.Tick(1000, 1000))
	}
}

// pieces is n parts of an InvoiceSet that sum up to total, whose ids begin with first.
func pieces(i api.Invoice, name [32]byte, n, total, first int) []api.Part {
	root := [32]byte{9, name[0]}
	shares, _ := share.Split(root, [32]byte{4}, n)
	var l []api.Part
	for k, s := range shares {
		amount := total / n
		if k == 0 {
			amount += total % n
		}
		p := piece(i, first+k, amount, total)
		p.Hash, p.Hop.Set, p.Hop.Index, p.Hop.Share = share.Hash(root, name, 3*k), name, 3*k, s
		l = append(l, p)
	}
	return l
}

// secretsOf is by what each of pieces is paid.
func secretsOf(name [32]byte, n int) [][32]byte {
	var l [][32]byte
	for k := range n {
		l = append(l, share.Secret([32]byte{9, name[0]}, name, 3*k))
	}
	return l
}

// P20.2: a set that is whole is paid, each part by its own secret, in the order in which they came; then the others
// are failed, set by set.
func TestSet(t *testing.T) {
	i := want(1, api.InvoiceSet)
	g := fresh(t, i, want(2, api.InvoiceSet))
	a, b, c := pieces(i, nameOf(11), 3, 100, 10), pieces(i, nameOf(12), 3, 120, 20), pieces(i, nameOf(13), 2, 200, 30)
	// A set of another invoice, with the name of one of these, is another one.
	other := pieces(want(2, api.InvoiceSet), nameOf(12), 2, 100, 40)
	for _, p := range []api.Part{b[2], a[1], c[0], other[0], b[0], a[0]} {
		wantActs(t, "not whole", g.Take(p, 1, 1))
	}
	wantState(t, "all sets", g, i.Secret, api.InvoiceOpen, 80+33+100+34)
	secrets := secretsOf(nameOf(12), 3)
	wantActs(t, "whole", g.Take(b[1], 1, 1),
		paid(22, secrets[2]), paid(20, secrets[0]), paid(21, secrets[1]),
		failed(11, api.ReasonGone), failed(10, api.ReasonGone), failed(30, api.ReasonGone))
	wantState(t, "settled", g, i.Secret, api.InvoiceSettled, 120)
	wantActs(t, "gone", g.Take(a[2], 1, 1), failed(12, api.ReasonGone))
	if g.Held() != 1 || !g.Holds(hook(40)) {
		t.Error("Held", g.Held())
	}
	wantState(t, "the other invoice", g, nameOf(2), api.InvoiceOpen, 50)
}

// P20.2: an InvoiceSet in one part; and an Index is there once in a set, but may be in others.
func TestSetIndex(t *testing.T) {
	i := want(1, api.InvoiceSet)
	g := fresh(t, i)
	one := pieces(i, nameOf(11), 1, 100, 10)[0]
	one.Hash, one.Hop.Index = share.Hash([32]byte{9, 11}, nameOf(11), api.MaxId), api.MaxId
	two := pieces(i, nameOf(12), 2, 100, 20)
	wantActs(t, "not whole", g.Take(two[0], 1, 1))
	again := two[1]
	again.Hop.Index = two[0].Hop.Index
	wantActs(t, "an Index twice", g.Take(again, 1, 1), failed(21, api.ReasonAmount))
	wantState(t, "as it was", g, i.Secret, api.InvoiceOpen, 50)
	wantActs(t, "whole", g.Take(one, 1, 1), paid(10, share.Secret([32]byte{9, 11}, nameOf(11), api.MaxId)), failed(20, api.ReasonGone))
	g = fresh(t, i)
	wantActs(t, "not whole", g.Take(two[0], 1, 1))
	same := pieces(i, nameOf(13), 2, 100, 30)[0]
	wantActs(t, "the same Index of another set", g.Take(same, 1, 1))
	wantState(t, "two sets", g, i.Secret, api.InvoiceOpen, 100)
}

// P20.2: a set that is whole, but whose shares do not fit, is failed; the invoice stays open.
func TestSetWrong(t *testing.T) {
	i := want(1, api.InvoiceSet)
	for name, spoil := range map[string]change{
		"another share":      func(p *api.Part) { p.Hop.Share[31]++ },
		"another hash":       func(p *api.Part) { p.Hash[0]++ },
		"another Index":      func(p *api.Part) { p.Hop.Index = 100 },
		"no Index that is":   func(p *api.Part) { p.Hop.Index, p.Hash = -1, [32]byte{} },
		"an Index too great": func(p *api.Part) { p.Hop.Index = math.MaxInt },
	} {
		for at := range 3 {
			g := fresh(t, i)
			l := pieces(i, nameOf(11), 3, 100, 10)
			spoil(&l[at])
			waits := pieces(i, nameOf(12), 2, 100, 20)
			wantActs(t, name, g.Take(waits[0], 1, 1))
			wantActs(t, name, g.Take(l[2], 1, 1))
			wantActs(t, name, g.Take(l[0], 1, 1))
			wantActs(t, name, g.Take(l[1], 1, 1), failed(12, api.ReasonAmount), failed(10, api.ReasonAmount), failed(11, api.ReasonAmount))
			wantState(t, name, g, i.Secret, api.InvoiceOpen, 50)
			if g.Held() != 1 {
				t.Error(name, "Held", g.Held())
			}
			// The same name may begin anew, with another Total.
			whole := pieces(i, nameOf(11), 2, 150, 10)
			wantActs(t, name, g.Take(whole[0], 1, 1))
			secrets := secretsOf(nameOf(11), 2)
			wantActs(t, name, g.Take(whole[1], 1, 1), paid(10, secrets[0]), paid(11, secrets[1]), failed(20, api.ReasonGone))
		}
	}
}

// P20.2: the limits of amounts and of Totals are those of each set by itself.
func TestSetAmounts(t *testing.T) {
	i := want(1, api.InvoiceSet)
	g := fresh(t, i)
	for n, total := range []int{100, 101, 199, 200} {
		p := pieces(i, nameOf(11+n), 2, total, 10*n)
		wantActs(t, "the first one", g.Take(p[0], 1, 1))
		q := p[1]
		q.Hop.Total++
		wantActs(t, "another Total", g.Take(q, 1, 1), failed(10*n+1, api.ReasonAmount))
		q = p[1]
		q.Amount = 201 - p[0].Amount
		wantActs(t, "more than twice", g.Take(q, 1, 1), failed(10*n+1, api.ReasonAmount))
	}
	for _, total := range []int{99, 201} {
		p := pieces(i, nameOf(30), 2, total, 90)
		wantActs(t, "a wrong Total", g.Take(p[0], 1, 1), failed(90, api.ReasonAmount))
	}
	wantState(t, "four sets", g, i.Secret, api.InvoiceOpen, 50+51+100+100)
	last := pieces(i, nameOf(14), 2, 200, 30)[1]
	secrets := secretsOf(nameOf(14), 2)
	acts := g.Take(last, 1, 1)
	wantActs(t, "twice as much", acts[:2], paid(30, secrets[0]), paid(31, secrets[1]))
	wantState(t, "settled", g, i.Secret, api.InvoiceSettled, 200)
}

// R3: acts are new memory.
func TestActsMemory(t *testing.T) {
	i := want(1, api.InvoiceSet)
	g := fresh(t, i, want(2, api.InvoiceHold))
	spoil := func(acts []api.Act) {
		acts = acts[:cap(acts)]
		for k := range acts {
			acts[k] = api.Act{Reason: 99}
		}
	}
	for range 2 {
		l := pieces(i, nameOf(11), 2, 100, 10)
		wantActs(t, "Take", g.Take(l[0], 1, 1))
		acts := g.Tick(1, 11)
		wantActs(t, "Tick", acts, failed(10, api.ReasonTimeout))
		spoil(acts)
		acts = g.Take(api.Part{In: hook(5)}, 1, 1)
		wantActs(t, "unknown", slices.Clone(acts), failed(5, api.ReasonUnknown))
		spoil(acts)
	}
}
