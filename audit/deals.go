package audit

import (
	"slices"

	"tollhouse/api"
	"tollhouse/mac"
	"tollhouse/node"
	"tollhouse/sim"
)

// Deals is all payments for invoices that were made: by payers, and then in the order in which they began.
func Deals(s *sim.Sim) []api.Deal {
	made := s.Made()
	var l []api.Deal
	for payer := range api.MaxNodes {
		n := s.Node(payer)
		for _, id := range n.Payments() {
			place := slices.IndexFunc(made, func(x api.Made) bool { return x.Secret == id })
			if place < 0 {
				continue
			}
			d := api.Deal{Payer: payer, Made: place, Payee: made[place].Node}
			d.State, d.Paid, d.Fees = n.Payment(id)
			d.Knows = knows(n, id, d.State)
			d.Is, d.Got = s.Node(d.Payee).Invoice(id)
			d.Agrees = agrees(d)
			l = append(l, d)
		}
	}
	return l
}

// knows tells whether a payer has what proves that each try was paid that it takes for paid, and, if the payment is done, whether there is one.
func knows(n *node.Node, id [32]byte, state int) bool {
	paid, proved := 0, 0
	for _, t := range n.Tries(id) {
		if t.State != api.TryPaid {
			continue
		}
		paid++
		if mac.Hash(t.Secret) == t.Hash {
			proved++
		}
	}
	return proved == paid && (paid > 0 || state != api.PayDone)
}

// agrees tells whether payer and payee tell the same.
func agrees(d api.Deal) bool {
	switch d.State {
	case api.PayDone:
		return d.Is == api.InvoiceSettled && d.Paid <= d.Got && d.Knows
	case api.PayFailed:
		return d.Paid == 0
	}
	return d.State == api.PayOpen
}
