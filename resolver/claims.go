package resolver

import (
	"tollhouse/api"
	"tollhouse/chain"
	"tollhouse/deal"
	"tollhouse/mac"
)

// way is how an output is claimed: by a path, with what that asks for.
type way struct {
	path   int
	secret [32]byte
}

// Claims is the transactions by which node claims, in the block of height, what it may of z: one for each output, so that one that the other one takes first does not hold up the others.
func Claims(t api.Terms, node int, key [32]byte, z api.Closed, height int, spent []bool, known [][32]byte) []api.Tx {
	if !deal.May(t) || deal.Other(t, node) < 0 {
		return nil
	}
	id := chain.Id(z.Tx)
	open := opener(t, node, z, height, known)
	var l []api.Tx
	for _, place := range left(z, t.Fee, spent) {
		out := z.Tx.Outs[place]
		w, ok := open(place)
		if !ok || w.path >= len(out.Paths) {
			continue
		}
		in := api.In{Ref: api.Ref{Tx: id, Out: place}, Path: w.path, Secret: w.secret}
		// Nothing is refused: the terms may be, node is one of the two, and what is above the Fee is not below 0.
		tx, _ := deal.Claim(t, node, []api.In{in}, out.Amount)
		l = append(l, tagged(key, tx))
	}
	return l
}

// opener tells of places that are left how node claims the output there in the block of height, if it may.
func opener(t api.Terms, node int, z api.Closed, height int, known [][32]byte) func(place int) (way, bool) {
	htlc := htlcOpener(t, node, height, known)
	switch z.Kind {
	case api.ClosedOwn:
		waited := passed(z.At, height, t.Delay)
		return func(place int) (way, bool) {
			switch {
			case !waited:
				return way{}, false
			case place == 0:
				return way{}, true
			}
			return htlc(htlcAt(z, place))
		}
	case api.ClosedOther:
		return func(place int) (way, bool) {
			if place == 1 {
				return way{}, true
			}
			return htlc(htlcAt(z, place))
		}
	}
	return func(place int) (way, bool) { return takenBack(place, z.Secret), true }
}

// htlcOpener tells of Htlcs how node claims them in the block of height, if it may and the commitment lets it.
func htlcOpener(t api.Terms, node, height int, known [][32]byte) func(h api.Htlc) (way, bool) {
	find := finder(known)
	return func(h api.Htlc) (way, bool) {
		switch h.By {
		case node:
			return way{path: 1}, h.Expiry <= height
		case deal.Other(t, node):
			secret, ok := find(h.Hash)
			return way{secret: secret}, ok
		}
		return way{}, false
	}
}

// takenBack is how an output of a commitment that was taken back is claimed, with the secret of its point.
func takenBack(place int, secret [32]byte) way {
	switch place {
	case 0:
		return way{path: 1, secret: secret}
	case 1:
		return way{}
	}
	return way{path: 2, secret: secret}
}

// finder finds the secret of a hash among known. These are hashed when the first one is looked for: mostly none is.
func finder(known [][32]byte) func(hash [32]byte) ([32]byte, bool) {
	var places map[[32]byte]int
	return func(hash [32]byte) ([32]byte, bool) {
		if places == nil {
			places = hashed(known)
		}
		place, ok := places[hash]
		if !ok {
			return [32]byte{}, false
		}
		return known[place], true
	}
}

// hashed is where in known the secret of each hash is.
func hashed(known [][32]byte) map[[32]byte]int {
	places := map[[32]byte]int{}
	for i, secret := range known {
		places[mac.Hash(secret)] = i
	}
	return places
}

// passed tells whether height is at least so many blocks above at.
func passed(at, height, blocks int) bool {
	// Between any two heights there is a number that is not below 0, and fits.
	return at <= height && uint(height)-uint(at) >= uint(blocks)
}

// tagged is tx, whose inputs are all of who has key, with its tags.
func tagged(key [32]byte, tx api.Tx) api.Tx {
	id := chain.Id(tx)
	for i := range tx.Ins {
		tx.Ins[i].TagA = mac.Tag(key, "tx", id[:])
	}
	return tx
}
