package audit

import (
	"tollhouse/api"
	"tollhouse/sim"
)

// Due is what is due to a node.
func Due(s *sim.Sim, i int) int {
	n := s.Node(i)
	if n == nil {
		return 0
	}
	due := start(s, i) - s.Fees() - s.Dust()
	for _, id := range n.Payments() {
		_, paid, fees := n.Payment(id)
		due -= paid + fees
	}
	for _, x := range n.Invoices() {
		if state, got := n.Invoice(x.Secret); state == api.InvoiceSettled {
			due += got
		}
	}
	return due
}

// Short is by how much a node has less than is due to it.
func Short(s *sim.Sim, i int) int {
	open, chain := s.Wealth(i)
	return max(0, Due(s, i)-open-chain)
}

// start is what was a node's at the beginning.
func start(s *sim.Sim, i int) int {
	sum := 0
	channels(s, func(t api.Terms, _ bool) {
		switch i {
		case t.A:
			sum += t.StartA
		case t.B:
			sum += t.StartB
		}
	})
	return sum
}
