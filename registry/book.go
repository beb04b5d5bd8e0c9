package registry

import (
	"slices"

	"tollhouse/api"
	"tollhouse/share"
)

// book is an invoice, and what came for it.
type book struct {
	invoice api.Invoice
	secret  [32]byte // that pays each part, if it is an InvoicePlain
	state   int
	got     int   // that it was settled with
	sets    []set // that are held, in the order in which they began
}

// set is parts that are paid all at once. The one of an invoice that is no InvoiceSet has a name of zeros.
type set struct {
	name  [32]byte
	tick  int // of its first part
	parts []api.Part
}

// isFor tells whether p is for b's invoice, whose Secret it has.
func (b *book) isFor(p api.Part) bool {
	noName := p.Hop.Set == [32]byte{}
	if b.invoice.Kind == api.InvoiceSet {
		return !noName
	}
	return noName && p.Hash == b.invoice.Hash
}

// wants tells whether p has room in its set, and an amount and a Total that the invoice and the set's other parts ask
// for.
func (b *book) wants(p api.Part) bool {
	// An invoice is at most MaxInvoice: nothing here runs over.
	least, most := b.invoice.Amount, 2*b.invoice.Amount
	if p.Hop.Total < least || p.Hop.Total > most {
		return false
	}
	i := b.place(named(p.Hop.Set))
	if i < 0 {
		return p.Amount <= most
	}
	s := b.sets[i]
	return s.parts[0].Hop.Total == p.Hop.Total && !b.twice(s, p.Hop.Index) && len(s.parts) < api.MaxParts && p.Amount <= most-s.amount()
}

// twice tells whether there would be two parts of an index in s that may be there once.
func (b *book) twice(s set, index int) bool {
	return b.invoice.Kind == api.InvoiceSet && slices.ContainsFunc(s.parts, func(p api.Part) bool { return p.Hop.Index == index })
}

// hold puts p at the end of its set, which begins at this tick if there is none yet, and is that set.
func (b *book) hold(p api.Part, tick int) set {
	i := b.place(named(p.Hop.Set))
	if i < 0 {
		i = len(b.sets)
		b.sets = append(b.sets, set{name: p.Hop.Set, tick: tick})
	}
	b.sets[i].parts = append(b.sets[i].parts, p)
	return b.sets[i]
}

// place is where the first set stands that is meant, or -1.
func (b *book) place(meant func(s set) bool) int {
	return slices.IndexFunc(b.sets, meant)
}

// take takes all sets out of b that are meant.
func (b *book) take(meant func(s set) bool) []set {
	var out, left []set
	for _, s := range b.sets {
		if meant(s) {
			out = append(out, s)
		} else {
			left = append(left, s)
		}
	}
	b.sets = left
	return out
}

// holds is what the parts of all sets sum up to.
func (b *book) holds() int {
	sum := 0
	for _, s := range b.sets {
		sum += s.amount()
	}
	return sum
}

// named tells whether a set has this name.
func named(name [32]byte) func(s set) bool {
	return func(s set) bool { return s.name == name }
}

// amount is what the parts of s sum up to.
func (s set) amount() int {
	sum := 0
	for _, p := range s.parts {
		sum += p.Amount
	}
	return sum
}

// expires tells whether a part of s expires at height, or ahead of it.
func (s set) expires(height int) bool {
	return slices.ContainsFunc(s.parts, func(p api.Part) bool { return p.Expiry <= height })
}

// secrets is what pays each part of s, if all of its shares are there.
func (s set) secrets() ([][32]byte, bool) {
	var shares, hashes [][32]byte
	var indexes []int
	for _, p := range s.parts {
		shares = append(shares, p.Hop.Share)
		indexes = append(indexes, p.Hop.Index)
		hashes = append(hashes, p.Hash)
	}
	return share.Check(s.name, shares, indexes, hashes)
}
