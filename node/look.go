package node

import "tollhouse/api"

// Height is that of the last block.
func (n *Node) Height() int {
	if n.closed() {
		return 0
	}
	return n.height
}

// Inputs is how many inputs are kept.
func (n *Node) Inputs() int {
	if n.closed() {
		return 0
	}
	return n.inputs
}

// Dead tells whether the disk did not answer once.
func (n *Node) Dead() bool {
	return !n.closed() && n.dead
}

// Channel is what both commitments of a channel say, and whether it is open.
func (n *Node) Channel(id int) (own, others api.View, open bool) {
	l := n.link(id)
	if l == nil {
		return api.View{}, api.View{}, false
	}
	_, own = l.Own()
	_, others = l.Others()
	return own, others, l.open
}

// Close is the commitment of a channel, as it may be published.
func (n *Node) Close(id int) (api.Tx, api.Errno) {
	if n.closed() {
		return api.Tx{}, api.ErrClosed
	}
	l := n.link(id)
	if l == nil {
		return api.Tx{}, api.ErrNone
	}
	return l.Close()
}

// Payment is the state of a payment, what was paid, and the fees of that.
func (n *Node) Payment(id [32]byte) (state, paid, fees int) {
	if n.closed() {
		return 0, 0, 0
	}
	return n.payments.State(id)
}

// Tries is all tries of a payment.
func (n *Node) Tries(id [32]byte) []api.Try {
	if n.closed() {
		return nil
	}
	return n.payments.Tries(id)
}

// Payments is all payments, in the order in which they began.
func (n *Node) Payments() [][32]byte {
	if n.closed() {
		return nil
	}
	return n.payments.List()
}

// Invoice is the state of an invoice, and what it got.
func (n *Node) Invoice(id [32]byte) (state, got int) {
	if n.closed() {
		return 0, 0
	}
	return n.registry.State(id)
}

// Invoices is all invoices, in the order in which they were made.
func (n *Node) Invoices() []api.Invoice {
	if n.closed() {
		return nil
	}
	return n.registry.List()
}

// Known is the secret of a hash, if the node was told it, or made an invoice pay with it.
func (n *Node) Known(hash [32]byte) ([32]byte, bool) {
	if n.closed() {
		return [32]byte{}, false
	}
	secret, ok := n.told[hash]
	return secret, ok
}

// Purse is what the node has in its channels, and what is on its way there.
func (n *Node) Purse() api.Purse {
	var p api.Purse
	if n.closed() {
		return p
	}
	n.each(func(l *link) {
		if l.spent {
			return
		}
		_, v := l.Own()
		own, _ := turned(n.config.Node == l.terms.B, v.A, v.B)
		p.Open = more(p.Open, own)
		for _, h := range v.Htlcs {
			if h.By == n.config.Node {
				p.Out = more(p.Out, h.Amount)
			} else {
				p.In = more(p.In, h.Amount)
			}
		}
	})
	return p
}

// Idle tells whether nothing is left to be done.
func (n *Node) Idle() bool {
	if n.closed() || len(n.ends) > 0 || n.circuits.Len() > 0 || n.payments.Flying() > 0 || n.registry.Held() > 0 {
		return false
	}
	idle := true
	n.each(func(l *link) { idle = idle && (l.spent || l.Idle()) })
	return idle
}

// link is the channel of this number, or nil.
func (n *Node) link(id int) *link {
	if n.closed() {
		return nil
	}
	return n.links[id]
}
