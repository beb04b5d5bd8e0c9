package node

import (
	"testing"

	"tollhouse/api"
	"tollhouse/resolver"
)

// P2: what a node handed on it is paid for, or gets back, whenever the other one shows the secret on the chain, and whoever closes; even if both its neighbours are silent, and Delta and Grace are as short as they may be.
func TestLateClaim(t *testing.T) {
	for margin := 2; margin < 5; margin++ {
		for _, closer := range []int{1, 2} {
			took := map[bool]int{}
			for late := range 24 {
				took[lateClaim(t, margin, closer, late)]++
			}
			if took[true] < 2 || took[false] < 2 {
				t.Error("too little happened", margin, closer, took)
			}
		}
	}
}

// lateClaim lets node 0 pay node 2, which is silent, and shows its secret on the chain as late as is asked for: so many blocks behind its commitment (or, if it closes the channel itself, it does that at such a height). It tells whether node 2 was in time.
func lateClaim(t *testing.T, margin, closer, late int) bool {
	t.Helper()
	x := silent(t, margin)
	m := x.made[0]
	if closer == 2 {
		for x.chain.Height() < late {
			x.block()
		}
		x.hand(2, api.Input{Kind: api.InClose, Number: 2})
		late = 0
	}
	took := false
	for range 80 {
		x.block()
		if tx, at, ok := x.chain.Spent(x.terms[1].Fund); ok && x.chain.Height() >= at+late {
			took = x.show(tx, at, m.preimage) || took
		}
	}
	if s := x.short(1); s > 0 {
		t.Errorf("margin %d, closed by %d, late by %d: short by %d", margin, closer, late, s)
	}
	return took
}

// silent is three in a row, where node 0 pays a hold invoice of node 2, and then nobody is there for one another.
func silent(t *testing.T, margin int) *net {
	t.Helper()
	x := emptyNet(t, between(1, 0, 1, 1000, 100), between(2, 1, 2, 1000, 100))
	x.margin = margin
	for range 3 {
		grace := x.terms[0].Delay + margin + 1
		x.rules = append(x.rules, api.Rules{Fees: api.Fees{Base: 1}, Delta: x.terms[0].Delay + margin + grace + 4, Grace: grace, Far: 500})
	}
	x.begin()
	x.allUp()
	x.all()
	x.pay(0, x.bill(2, api.InvoiceHold, 300, 50), 1)
	x.all()
	x.lose(0, 1)
	x.lose(1, 2)
	return x
}

// show lets node 2 claim what was handed on to it in tx, which was confirmed at a height and closed its channel, by a secret. It tells whether that may be in the next block.
func (x *net) show(tx api.Tx, at int, secret [32]byte) bool {
	z := resolver.Sort(x.nodes[2].links[2].Channel, tx, at)
	for _, claim := range resolver.Claims(x.terms[1], 2, Key(x.seed, 2), z, x.chain.Height()+1, nil, [][32]byte{secret}) {
		if claim.Ins[0].Ref.Out == firstHtlc && x.chain.Submit(claim) == api.OK {
			return true
		}
	}
	return false
}
