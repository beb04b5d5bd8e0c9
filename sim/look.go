package sim

import (
	"slices"

	"tollhouse/api"
	"tollhouse/files"
	"tollhouse/node"
)

// Node is a node; nil, if there is none.
func (s *Sim) Node(i int) *node.Node {
	if s.closed() || !s.isNode(i) {
		return nil
	}
	return s.nodes[i]
}

// Files is a node's disk; nil, if there is none.
func (s *Sim) Files(i int) *files.Files {
	if s.closed() || !s.isNode(i) {
		return nil
	}
	return s.disks[i]
}

// Terms is all channels, with their Funds.
func (s *Sim) Terms() []api.Terms {
	if s.closed() {
		return nil
	}
	return slices.Clone(s.net.Terms)
}

// Made is all invoices that were made, in order.
func (s *Sim) Made() []api.Made {
	if s.closed() {
		return nil
	}
	return slices.Clone(s.made)
}

// OnWay is how many messages are on their way from a to b.
func (s *Sim) OnWay(a, b int) int {
	if !s.There(a, b) {
		return 0
	}
	return s.onWay(way{a, b})
}

// There tells whether two nodes are there for one another.
func (s *Sim) There(a, b int) bool {
	return !s.closed() && s.isNode(a) && s.isNode(b) && s.there(way{a, b})
}

// Height is the chain's.
func (s *Sim) Height() int {
	if s.closed() {
		return 0
	}
	return s.chain.Height()
}

// Fees is what was paid on the chain.
func (s *Sim) Fees() int {
	if s.closed() {
		return 0
	}
	return s.chain.Fees()
}

// Dust is what lies on the chain and is not worth to be claimed.
func (s *Sim) Dust() int {
	if s.closed() {
		return 0
	}
	return s.sum(func(out api.Out) bool { return owner(out) == nobody && !s.worth(out) })
}

// Wealth is what a node has in channels, and what is its alone on the chain.
func (s *Sim) Wealth(i int) (open, chain int) {
	if s.closed() || !s.isNode(i) {
		return 0, 0
	}
	return s.nodes[i].Purse().Open, s.sum(func(out api.Out) bool { return owner(out) == i })
}

// Spent tells whether the money of a channel is spent.
func (s *Sim) Spent(channel int) bool {
	if s.closed() {
		return false
	}
	i := slices.IndexFunc(s.net.Terms, func(t api.Terms) bool { return t.Channel == channel })
	if i < 0 {
		return false
	}
	_, _, spent := s.chain.Spent(s.net.Terms[i].Fund)
	return spent
}

// Quiet tells whether nothing is left to be done.
func (s *Sim) Quiet() bool {
	if s.closed() {
		return false
	}
	quiet := true
	s.each(func(i int) { quiet = quiet && (s.net.Bad[i] || !s.dead(i) && s.nodes[i].Idle()) })
	s.pairs(func(w way) { quiet = quiet && s.onWay(w) == 0 })
	for _, out := range s.coins {
		quiet = quiet && (owner(out) != nobody || !s.worth(out))
	}
	return quiet
}

// nobody is the owner of outputs that are not one node's alone.
const nobody = -1

// owner is the node whose alone an output is.
func owner(out api.Out) int {
	if len(out.Paths) != 1 || out.Paths[0].Two {
		return nobody
	}
	return out.Paths[0].A
}

// worth tells whether an output is more than the greatest Fee of all channels.
func (s *Sim) worth(out api.Out) bool {
	return !slices.ContainsFunc(s.net.Terms, func(t api.Terms) bool { return out.Amount <= t.Fee })
}

// sum is what those of the chain's unspent outputs sum up to that are meant, the beginning's apart.
func (s *Sim) sum(meant func(out api.Out) bool) int {
	total := 0
	for _, out := range s.coins {
		if meant(out) {
			total += out.Amount
		}
	}
	return total
}
