package policy

import (
	"tollhouse/amount"
	"tollhouse/api"
)

// htlc is what came in to a node with these rules, at a height.
type htlc struct {
	rules  api.Rules
	amount int
	expiry int
	height int
}

// wrong tells whether there is something in x that may not be.
func (x htlc) wrong() bool {
	return !May(x.rules) || x.amount < 0 || !mayHeight(x.expiry) || !mayHeight(x.height)
}

// far tells whether x would be on its way for too long.
func (x htlc) far() bool {
	return x.expiry-x.height > x.rules.Far
}

// soon tells whether too little time is left till expiry.
func (x htlc) soon(expiry int) bool {
	return expiry <= x.height+x.rules.Grace
}

// below tells whether x is less than what must come in for out to go on.
func (x htlc) below(out int) bool {
	in, e := amount.In(x.rules.Fees, out)
	return e != api.OK || x.amount < in
}
