package registry

import (
	"math"
	"slices"
	"testing"

	"tollhouse/api"
	"tollhouse/mac"
)

func secretOf(n int) [32]byte { return [32]byte{byte(n), 77} }
func hashOf(n int) [32]byte   { return mac.Hash(secretOf(n)) }

// nameOf is the Secret of the n-th invoice; also names of sets.
func nameOf(n int) [32]byte { return [32]byte{byte(n), byte(n >> 8), 5} }

func rules() api.Rules { return api.Rules{Delta: 5, Grace: 2, Far: 100} }

// want is the n-th invoice of a kind, of 100.
func want(n, kind int) api.Invoice {
	i := api.Invoice{Node: 2, Kind: kind, Hash: hashOf(n), Secret: nameOf(n), Amount: 100, Expiry: 50, Text: "tea"}
	if kind == api.InvoiceSet {
		i.Hash = [32]byte{}
	}
	return i
}

// fresh is a registry of node 2 with these invoices, in which sets wait for 10 ticks.
func fresh(t *testing.T, invoices ...api.Invoice) *Registry {
	t.Helper()
	g, e := New(2, rules(), 10)
	if e != api.OK {
		t.Fatal("New", e)
	}
	for _, i := range invoices {
		wantErr(t, "Add", add(g, i), api.OK)
	}
	return g
}

// add adds the n-th invoice with the secret that pays it.
func add(g *Registry, i api.Invoice) api.Errno {
	return g.Add(i, secretOf(int(i.Secret[0])))
}

func wantErr(t *testing.T, name string, e, want api.Errno) {
	t.Helper()
	if e != want {
		t.Errorf("%s: %d, want %d", name, e, want)
	}
}

func wantActs(t *testing.T, name string, got []api.Act, want ...api.Act) {
	t.Helper()
	if !slices.Equal(got, want) {
		t.Errorf("%s: %v, want %v", name, got, want)
	}
}

func wantState(t *testing.T, name string, g *Registry, secret [32]byte, state, got int) {
	t.Helper()
	if s, n := g.State(secret); s != state || n != got {
		t.Errorf("%s: the state %d, %d, want %d, %d", name, s, n, state, got)
	}
}

func hook(id int) api.Hook { return api.Hook{Channel: 1, Id: id} }

func paid(id int, secret [32]byte) api.Act {
	return api.Act{In: hook(id), Pay: true, Secret: secret}
}

func failed(id, reason int) api.Act { return api.Act{In: hook(id), Reason: reason} }

// piece is a part of an amount for an invoice that wants total in all. Its Index is its id.
func piece(i api.Invoice, id, amount, total int) api.Part {
	return api.Part{In: hook(id), Amount: amount, Expiry: 40, Hash: i.Hash, Hop: api.Hop{Amount: amount, Expiry: 40, Secret: i.Secret, Total: total, Index: id}}
}

// P20.1: what a registry may be made of.
func TestNew(t *testing.T) {
	wrong := rules()
	wrong.Delta = 0
	for _, c := range []struct {
		node int
		r    api.Rules
		wait int
		want api.Errno
	}{
		{0, rules(), 1, api.OK},
		{7, rules(), api.MaxExpiry, api.OK},
		{-1, rules(), 1, api.ErrArg},
		{8, rules(), 1, api.ErrArg},
		{math.MinInt, rules(), 1, api.ErrArg},
		{math.MaxInt, rules(), 1, api.ErrArg},
		{3, wrong, 1, api.ErrArg},
		{3, api.Rules{}, 1, api.ErrArg},
		{3, rules(), 0, api.ErrArg},
		{3, rules(), -1, api.ErrArg},
		{3, rules(), api.MaxExpiry + 1, api.ErrArg},
		{3, rules(), math.MaxInt, api.ErrArg},
	} {
		g, e := New(c.node, c.r, c.wait)
		if e != c.want || (g == nil) != (e != api.OK) {
			t.Errorf("New(%d, %v, %d): %v, %d", c.node, c.r, c.wait, g, e)
		}
		if g != nil {
			(&plain{}).check(t, g)
		}
	}
}

// P20.1: which invoices may be added.
func TestAdd(t *testing.T) {
	for _, kind := range []int{api.InvoicePlain, api.InvoiceHold, api.InvoiceSet} {
		for _, c := range []struct {
			name   string
			change func(i *api.Invoice)
			want   api.Errno
		}{
			{"as it is", func(i *api.Invoice) {}, api.OK},
			{"of another node", func(i *api.Invoice) { i.Node = 3 }, api.ErrArg},
			{"of no node", func(i *api.Invoice) { i.Node = -1 }, api.ErrArg},
			{"the greatest", func(i *api.Invoice) { i.Amount = 1 << 48 }, api.OK},
			{"one more", func(i *api.Invoice) { i.Amount = 1<<48 + 1 }, api.ErrArg},
			{"far more", func(i *api.Invoice) { i.Amount = math.MaxInt }, api.ErrArg},
			{"the least", func(i *api.Invoice) { i.Amount = 1 }, api.OK},
			{"nothing", func(i *api.Invoice) { i.Amount = 0 }, api.ErrArg},
			{"no kind", func(i *api.Invoice) { i.Kind = 0 }, api.ErrArg},
			{"a kind too far", func(i *api.Invoice) { i.Kind = 4 }, api.ErrArg},
			{"till the beginning", func(i *api.Invoice) { i.Expiry = 0 }, api.OK},
			{"till ahead of it", func(i *api.Invoice) { i.Expiry = -1 }, api.ErrArg},
			{"a text that may not be", func(i *api.Invoice) { i.Text = "\n" }, api.ErrArg},
			{"no text", func(i *api.Invoice) { i.Text = "" }, api.OK},
			{"a Secret of zeros", func(i *api.Invoice) { i.Secret = [32]byte{} }, api.OK},
		} {
			g, i := fresh(t), want(1, kind)
			c.change(&i)
			wantErr(t, c.name, g.Add(i, secretOf(1)), c.want)
			p := &plain{node: 2}
			wantErr(t, c.name, p.add(i, secretOf(1)), c.want)
			p.check(t, g)
			if c.want == api.OK {
				wantState(t, c.name, g, i.Secret, api.InvoiceOpen, 0)
			}
		}
	}
}

// P20.1: the secret of an InvoicePlain must be that of its Hash; of others it may be any.
func TestAddSecret(t *testing.T) {
	g := fresh(t)
	wantErr(t, "plain", g.Add(want(1, api.InvoicePlain), secretOf(2)), api.ErrSecret)
	wantErr(t, "the hash itself", g.Add(want(1, api.InvoicePlain), hashOf(1)), api.ErrSecret)
	wantErr(t, "its Secret", g.Add(want(1, api.InvoicePlain), nameOf(1)), api.ErrSecret)
	(&plain{}).check(t, g)
	wantErr(t, "plain", g.Add(want(1, api.InvoicePlain), secretOf(1)), api.OK)
	wantErr(t, "hold", g.Add(want(2, api.InvoiceHold), secretOf(9)), api.OK)
	wantErr(t, "a set", g.Add(want(3, api.InvoiceSet), secretOf(9)), api.OK)
	other := want(1, api.InvoicePlain)
	wantErr(t, "wrong, and twice", g.Add(other, secretOf(2)), api.ErrSecret)
	other.Node = 1
	wantErr(t, "wrong, and of another node", g.Add(other, secretOf(2)), api.ErrArg)
}

// P20.1: none is there twice, by its Secret or by its Hash, whatever became of it.
func TestAddTwice(t *testing.T) {
	const p, h, s = api.InvoicePlain, api.InvoiceHold, api.InvoiceSet
	for _, end := range []func(g *Registry, secret [32]byte){
		func(g *Registry, secret [32]byte) {},
		func(g *Registry, secret [32]byte) { g.Cancel(secret) },
	} {
		for _, first := range []int{p, h, s} {
			for _, second := range []int{p, h, s} {
				g := fresh(t, want(1, first))
				end(g, nameOf(1))
				other := want(2, second)
				other.Secret = nameOf(1)
				wantErr(t, "the same Secret", g.Add(other, secretOf(2)), api.ErrTwice)
				other = want(1, second)
				other.Secret = nameOf(2)
				e := api.OK
				if first != s && second != s {
					e = api.ErrTwice
				}
				wantErr(t, "the same Hash", g.Add(other, secretOf(1)), e)
			}
		}
	}
	// One whose Hash is the Secret of another one, and the other way round, is another one.
	g := fresh(t, want(1, h))
	other := want(2, h)
	other.Hash, other.Secret = nameOf(1), hashOf(1)
	wantErr(t, "turned round", g.Add(other, secretOf(1)), api.OK)
}

// P20.1: at MaxInvoices it is full; which error comes first.
func TestFull(t *testing.T) {
	g := fresh(t)
	for n := range api.MaxInvoices {
		wantErr(t, "Add", add(g, want(n, 1+n%3)), api.OK)
	}
	wantErr(t, "full", add(g, want(64, api.InvoiceSet)), api.ErrFull)
	wantErr(t, "full, and twice", add(g, want(63, api.InvoiceSet)), api.ErrTwice)
	wantErr(t, "full, and wrong", g.Add(want(64, api.InvoicePlain), secretOf(1)), api.ErrSecret)
	wantErr(t, "full, and none", g.Add(api.Invoice{}, secretOf(1)), api.ErrArg)
	g.Cancel(nameOf(3))
	wantErr(t, "full of one that is cancelled", add(g, want(64, api.InvoiceSet)), api.ErrFull)
	l := g.List()
	if len(l) != 64 {
		t.Fatal("List", len(l))
	}
	for n, i := range l {
		if i != want(n, 1+n%3) {
			t.Error("List", n, i)
		}
	}
}

// P20.5, R3: what is answered is new memory.
func TestListMemory(t *testing.T) {
	g := fresh(t, want(1, api.InvoiceSet), want(2, api.InvoiceHold))
	l := g.List()
	room := l[:cap(l)]
	for i := range room {
		room[i] = api.Invoice{Node: 9}
	}
	if m := g.List(); len(m) != 2 || m[0] != want(1, api.InvoiceSet) || m[1] != want(2, api.InvoiceHold) {
		t.Error("List is kept", m)
	}
	wantState(t, "still there", g, nameOf(1), api.InvoiceOpen, 0)
	wantErr(t, "still twice", add(g, want(2, api.InvoiceHold)), api.ErrTwice)
}

// P20.5: of a nil Registry, and of one that New did not make.
func TestNil(t *testing.T) {
	for _, g := range []*Registry{nil, {}} {
		wantErr(t, "Add", add(g, want(1, api.InvoicePlain)), api.ErrClosed)
		wantErr(t, "Add of what may not be", g.Add(api.Invoice{}, [32]byte{}), api.ErrClosed)
		wantActs(t, "Take", g.Take(piece(want(1, 1), 1, 100, 100), 1, 1))
		wantActs(t, "Tick", g.Tick(1000, 1000))
		a, e := g.Settle(hashOf(1), secretOf(1))
		wantActs(t, "Settle", a)
		wantErr(t, "Settle", e, api.ErrClosed)
		a, e = g.Cancel(nameOf(1))
		wantActs(t, "Cancel", a)
		wantErr(t, "Cancel", e, api.ErrClosed)
		wantState(t, "State", g, nameOf(1), 0, 0)
		if g.Holds(hook(1)) || g.Held() != 0 || len(g.List()) != 0 {
			t.Error("something is there")
		}
	}
}
