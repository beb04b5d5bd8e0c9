package registry

import (
	"tollhouse/api"
	"tollhouse/policy"
)

// refusal is why p is not held for b, the book of its invoice (nil: there is none); 0, if it may be.
func (g *Registry) refusal(b *book, p api.Part, height int) int {
	if b == nil || !b.isFor(p) {
		return api.ReasonUnknown
	}
	if reason := policy.Final(g.rules, p.Hop, p.Amount, p.Expiry, height); reason != 0 {
		return reason
	}
	switch {
	case b.state != api.InvoiceOpen || height > b.invoice.Expiry:
		return api.ReasonGone
	case !b.wants(p):
		return api.ReasonAmount
	case len(g.held) >= api.MaxHeld:
		return api.ReasonNext
	}
	return 0
}

// whole is what is done when all of a set of b are there.
func (g *Registry) whole(b *book, s set) []api.Act {
	switch b.invoice.Kind {
	case api.InvoicePlain:
		return g.settle(b, s.name, func(int) [32]byte { return b.secret })
	case api.InvoiceHold:
		b.state = api.InvoiceHeld
		return nil
	}
	secrets, ok := s.secrets()
	if !ok {
		return g.fail(b, func(x set) int {
			if x.name != s.name {
				return 0
			}
			return api.ReasonAmount
		})
	}
	return g.settle(b, s.name, func(i int) [32]byte { return secrets[i] })
}

// settle pays the set of this name, each part by the secret of its place, and fails all others of b.
func (g *Registry) settle(b *book, name [32]byte, secretOf func(i int) [32]byte) []api.Act {
	paid := b.take(named(name))
	var acts []api.Act
	for _, s := range paid {
		b.got = s.amount()
		for i, p := range s.parts {
			acts = append(acts, api.Act{In: p.In, Pay: true, Secret: secretOf(i)})
		}
	}
	g.drop(paid)
	b.state = api.InvoiceSettled
	return append(acts, g.fail(b, always(api.ReasonGone))...)
}

// fail fails all parts of those sets of b of which why tells a reason. These sets are gone then.
func (g *Registry) fail(b *book, why func(s set) int) []api.Act {
	failed := b.take(func(s set) bool { return why(s) != 0 })
	var acts []api.Act
	for _, s := range failed {
		reason := why(s)
		for _, p := range s.parts {
			acts = append(acts, api.Act{In: p.In, Reason: reason})
		}
	}
	g.drop(failed)
	return acts
}

// drop forgets that the parts of these sets are held.
func (g *Registry) drop(sets []set) {
	for _, s := range sets {
		for _, p := range s.parts {
			delete(g.held, p.In)
		}
	}
}

// always tells the same reason of each set.
func always(reason int) func(s set) int {
	return func(set) int { return reason }
}

// inTime is a height or a tick, brought within those that may be.
func inTime(n int) int {
	return min(max(n, 0), api.MaxExpiry)
}
