package registry

import (
	"slices"
	"testing"

	"tollhouse/api"
	"tollhouse/invoice"
	"tollhouse/mac"
	"tollhouse/policy"
	"tollhouse/share"
)

// plainInvoice is an invoice, and what became of it.
type plainInvoice struct {
	api.Invoice
	secret [32]byte
	state  int
	paid   int
}

// plainPart is a part that is held, and at which tick it came.
type plainPart struct {
	api.Part
	tick int
}

// plain is the document's words: invoices in their order, and all parts that are held in the order in which they came.
// A set is those of them that have the same Secret and the same Set.
type plain struct {
	node, wait int
	rules      api.Rules
	invoices   []*plainInvoice
	parts      []plainPart
}

func cut(n int) int {
	if n < 0 {
		return 0
	}
	if n > 2147483647 {
		return 2147483647
	}
	return n
}

func (g *plain) add(i api.Invoice, secret [32]byte) api.Errno {
	if !invoice.May(i) || i.Node != g.node || i.Amount > 281474976710656 {
		return api.ErrArg
	}
	if i.Kind == api.InvoicePlain && mac.Hash(secret) != i.Hash {
		return api.ErrSecret
	}
	for _, x := range g.invoices {
		if x.Secret == i.Secret || x.Kind != api.InvoiceSet && i.Kind != api.InvoiceSet && x.Hash == i.Hash {
			return api.ErrTwice
		}
	}
	if len(g.invoices) == 64 {
		return api.ErrFull
	}
	g.invoices = append(g.invoices, &plainInvoice{Invoice: i, secret: secret, state: 1})
	return api.OK
}

func (g *plain) of(secret [32]byte) *plainInvoice {
	for _, x := range g.invoices {
		if x.Secret == secret {
			return x
		}
	}
	return nil
}

func (g *plain) holds(in api.Hook) bool {
	return slices.ContainsFunc(g.parts, func(p plainPart) bool { return p.In == in })
}

// set is the parts of a set.
func (g *plain) set(secret, name [32]byte) []plainPart {
	var l []plainPart
	for _, p := range g.parts {
		if p.Hop.Secret == secret && p.Hop.Set == name {
			l = append(l, p)
		}
	}
	return l
}

// names is the names of the sets of an invoice, in the order in which these began.
func (g *plain) names(secret [32]byte) [][32]byte {
	var l [][32]byte
	for _, p := range g.parts {
		if p.Hop.Secret == secret && !slices.Contains(l, p.Hop.Set) {
			l = append(l, p.Hop.Set)
		}
	}
	return l
}

func sum(parts []plainPart) int {
	n := 0
	for _, p := range parts {
		n += p.Amount
	}
	return n
}

// forget takes a set away, and is its parts.
func (g *plain) forget(secret, name [32]byte) []plainPart {
	l := g.set(secret, name)
	g.parts = slices.DeleteFunc(slices.Clone(g.parts), func(p plainPart) bool {
		return p.Hop.Secret == secret && p.Hop.Set == name
	})
	return l
}

func (g *plain) fail(secret, name [32]byte, reason int) []api.Act {
	var acts []api.Act
	for _, p := range g.forget(secret, name) {
		acts = append(acts, api.Act{In: p.In, Reason: reason})
	}
	return acts
}

func (g *plain) failAll(secret [32]byte) []api.Act {
	var acts []api.Act
	for _, name := range g.names(secret) {
		acts = append(acts, g.fail(secret, name, api.ReasonGone)...)
	}
	return acts
}

func (g *plain) pay(x *plainInvoice, name [32]byte, secrets ...[32]byte) []api.Act {
	var acts []api.Act
	x.state = 3
	for i, p := range g.forget(x.Secret, name) {
		x.paid += p.Amount
		acts = append(acts, api.Act{In: p.In, Pay: true, Secret: secrets[i%len(secrets)]})
	}
	return acts
}

// reason is why p is failed, or 0.
func (g *plain) reason(p api.Part, height int) int {
	x := g.of(p.Hop.Secret)
	if x == nil {
		return 7
	}
	zeros := p.Hop.Set == [32]byte{}
	if x.Kind != 3 && (x.Hash != p.Hash || !zeros) || x.Kind == 3 && zeros {
		return 7
	}
	if n := policy.Final(g.rules, p.Hop, p.Amount, p.Expiry, height); n != 0 {
		return n
	}
	if x.state != 1 || height > x.Expiry {
		return 10
	}
	if p.Hop.Total < x.Amount || p.Hop.Total > x.Amount*2 || p.Amount > x.Amount*2 {
		return 8
	}
	l := g.set(p.Hop.Secret, p.Hop.Set)
	for _, q := range l {
		if q.Hop.Total != p.Hop.Total || x.Kind == 3 && q.Hop.Index == p.Hop.Index {
			return 8
		}
	}
	if len(l) == 16 || sum(l)+p.Amount > 2*x.Amount {
		return 8
	}
	if len(g.parts) == 128 {
		return 2
	}
	return 0
}

func (g *plain) take(p api.Part, height, tick int) []api.Act {
	if g.holds(p.In) {
		return nil
	}
	if n := g.reason(p, cut(height)); n != 0 {
		return []api.Act{{In: p.In, Reason: n}}
	}
	g.parts = append(g.parts, plainPart{p, cut(tick)})
	x, l := g.of(p.Hop.Secret), g.set(p.Hop.Secret, p.Hop.Set)
	switch {
	case sum(l) < p.Hop.Total:
		return nil
	case x.Kind == 1:
		return g.pay(x, p.Hop.Set, x.secret)
	case x.Kind == 2:
		x.state = 2
		return nil
	}
	var shares, hashes [][32]byte
	var indexes []int
	for _, q := range l {
		shares, indexes, hashes = append(shares, q.Hop.Share), append(indexes, q.Hop.Index), append(hashes, q.Hash)
	}
	secrets, ok := share.Check(p.Hop.Set, shares, indexes, hashes)
	if !ok {
		return g.fail(p.Hop.Secret, p.Hop.Set, 8)
	}
	acts := g.pay(x, p.Hop.Set, secrets...)
	return append(acts, g.failAll(x.Secret)...)
}

func (g *plain) tick(height, tick int) []api.Act {
	var acts []api.Act
	for _, x := range g.invoices {
		for _, name := range g.names(x.Secret) {
			l := g.set(x.Secret, name)
			soon := slices.ContainsFunc(l, func(p plainPart) bool { return p.Expiry-cut(height) <= g.rules.Grace })
			if soon {
				acts = append(acts, g.fail(x.Secret, name, 5)...)
				if x.state == 2 {
					x.state = 4
				}
			} else if x.state == 1 && cut(tick) >= l[0].tick+g.wait {
				acts = append(acts, g.fail(x.Secret, name, 9)...)
			}
		}
	}
	return acts
}

func (g *plain) settle(hash, secret [32]byte) ([]api.Act, api.Errno) {
	for _, x := range g.invoices {
		if x.Kind != 2 || x.Hash != hash {
			continue
		}
		if x.state != 2 {
			return nil, api.ErrState
		}
		if mac.Hash(secret) != hash {
			return nil, api.ErrSecret
		}
		return g.pay(x, [32]byte{}, secret), api.OK
	}
	return nil, api.ErrNone
}

func (g *plain) cancel(secret [32]byte) ([]api.Act, api.Errno) {
	x := g.of(secret)
	if x == nil {
		return nil, api.ErrNone
	}
	if x.state >= 3 {
		return nil, api.ErrState
	}
	x.state = 4
	return g.failAll(secret), api.OK
}

func (g *plain) state(secret [32]byte) (int, int) {
	x := g.of(secret)
	if x == nil {
		return 0, 0
	}
	got := x.paid
	for _, name := range g.names(secret) {
		got += sum(g.set(secret, name))
	}
	return x.state, got
}

// check asks r for all that it tells.
func (g *plain) check(t *testing.T, r *Registry) {
	t.Helper()
	l := r.List()
	if len(l) != len(g.invoices) || r.Held() != len(g.parts) {
		t.Fatalf("%d invoices, want %d; %d parts, want %d", len(l), len(g.invoices), r.Held(), len(g.parts))
	}
	for i, x := range g.invoices {
		if l[i] != x.Invoice {
			t.Fatalf("List, at %d: %v, want %v", i, l[i], x.Invoice)
		}
		state, got := r.State(x.Secret)
		if wantState, want := g.state(x.Secret); state != wantState || got != want {
			t.Fatalf("State of %d: %d, %d, want %d, %d", i, state, got, wantState, want)
		}
	}
	for _, p := range g.parts {
		if !r.Holds(p.In) {
			t.Fatal("not held", p.In)
		}
	}
}
