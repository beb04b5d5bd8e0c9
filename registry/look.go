package registry

import "tollhouse/api"

// State is the state of the invoice of this Secret, and what it holds, or was settled with.
func (g *Registry) State(secret [32]byte) (state, got int) {
	b := g.find(bySecret(secret))
	if b == nil {
		return 0, 0
	}
	// One of the two is 0: nothing is held any more when it is settled.
	return b.state, b.got + b.holds()
}

// Holds tells whether the part that came as this HTLC is held.
func (g *Registry) Holds(in api.Hook) bool {
	if g.closed() {
		return false
	}
	_, ok := g.held[in]
	return ok
}

// Held is how many parts are held.
func (g *Registry) Held() int {
	if g.closed() {
		return 0
	}
	return len(g.held)
}

// List is all invoices, in the order in which they were added.
func (g *Registry) List() []api.Invoice {
	if g.closed() {
		return nil
	}
	var l []api.Invoice
	for _, b := range g.books {
		l = append(l, b.invoice)
	}
	return l
}

// closed tells whether g is nothing that New made.
func (g *Registry) closed() bool {
	return g == nil || g.held == nil
}

// find is the first book whose invoice is meant, or nil.
func (g *Registry) find(meant func(i api.Invoice) bool) *book {
	if g.closed() {
		return nil
	}
	for _, b := range g.books {
		if meant(b.invoice) {
			return b
		}
	}
	return nil
}

// bySecret tells whether an invoice has this Secret.
func bySecret(secret [32]byte) func(i api.Invoice) bool {
	return func(i api.Invoice) bool { return i.Secret == secret }
}

// like tells whether an invoice could be mistaken for i: by its Secret, or by its Hash.
func like(i api.Invoice) func(other api.Invoice) bool {
	return func(other api.Invoice) bool {
		return other.Secret == i.Secret || i.Kind != api.InvoiceSet && other.Hash == i.Hash
	}
}
