package sim

import "tollhouse/api"

// face is all that a net tells.
type face struct {
	Terms  []api.Terms
	Made   []api.Made
	OnWay  []int
	There  []bool
	Height int
	Fees   int
	Dust   int
	Wealth []int
	Spent  []bool
	Quiet  bool
	Disks  [][]api.File
	Nodes  []nodeFace
}

// nodeFace is what a node of it tells.
type nodeFace struct {
	Height   int
	Inputs   int
	Dead     bool
	Idle     bool
	Purse    api.Purse
	Payments [][32]byte
	Tries    [][]api.Try
	Invoices []api.Invoice
	Views    []api.View
	Closes   []api.Tx
}

func faceOf(s *Sim) face {
	x := face{Terms: s.Terms(), Made: s.Made(), Height: s.Height(), Fees: s.Fees(), Dust: s.Dust(), Quiet: s.Quiet()}
	for _, t := range x.Terms {
		x.Spent = append(x.Spent, s.Spent(t.Channel))
	}
	for i := range s.net.Nodes {
		open, chain := s.Wealth(i)
		x.Wealth = append(x.Wealth, open, chain)
		x.Disks = append(x.Disks, s.Files(i).List())
		x.Nodes = append(x.Nodes, nodeFaceOf(s, i))
		for j := range s.net.Nodes {
			x.OnWay, x.There = append(x.OnWay, s.OnWay(i, j)), append(x.There, s.There(i, j))
		}
	}
	return x
}

func nodeFaceOf(s *Sim, i int) nodeFace {
	n := s.Node(i)
	x := nodeFace{Height: n.Height(), Inputs: n.Inputs(), Dead: n.Dead(), Idle: n.Idle(), Purse: n.Purse(), Payments: n.Payments(), Invoices: n.Invoices()}
	for _, id := range x.Payments {
		x.Tries = append(x.Tries, n.Tries(id))
	}
	for _, t := range s.Terms() {
		own, others, _ := n.Channel(t.Channel)
		tx, _ := n.Close(t.Channel)
		x.Views, x.Closes = append(x.Views, own, others), append(x.Closes, tx)
	}
	return x
}
