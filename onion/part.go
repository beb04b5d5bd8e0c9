package onion

import (
	"bytes"

	"tollhouse/api"
)

// part is what a packet tells one node: its hop, and the tag of the packet that is for the next one.
type part struct {
	hop  api.Hop
	next [32]byte
}

// fields hands the fields over in the order in which they are written: numbers with how many bytes they have and how great they may be.
func (p *part) fields(number func(x *int, size, most int), array func(x *[32]byte)) {
	number(&p.hop.Channel, 2, api.MaxChannel)
	number(&p.hop.Amount, 8, api.MaxMsat)
	number(&p.hop.Expiry, 4, api.MaxExpiry)
	array(&p.hop.Secret)
	number(&p.hop.Total, 8, api.MaxMsat)
	array(&p.hop.Set)
	number(&p.hop.Index, 4, api.MaxId)
	array(&p.hop.Share)
	array(&p.next)
}

// may tells whether p's hop may be, and whether there is nothing for a next one where there is none.
func (p part) may() bool {
	within := true
	p.fields(
		func(x *int, _, most int) { within = within && 0 <= *x && *x <= most },
		func(*[32]byte) {},
	)
	return within && (p.hop.Channel != 0 || p.next == [32]byte{})
}

// written is the bytes of p.
func written(p part) []byte {
	out := make([]byte, api.HopSize)
	rest := out
	p.fields(
		func(x *int, size, _ int) {
			put(rest[:size], *x)
			rest = rest[size:]
		},
		func(x *[32]byte) { rest = rest[copy(rest, x[:]):] },
	)
	return out
}

// read is the part whose bytes b are, and whether it may be; b has HopSize bytes.
func read(b []byte) (part, bool) {
	var p part
	p.fields(
		func(x *int, size, _ int) {
			*x = number(b[:size])
			b = b[size:]
		},
		func(x *[32]byte) { b = b[copy(x[:], b):] },
	)
	return p, p.may() && len(bytes.TrimLeft(b, "\x00")) == 0
}

// mayFollow tells whether hops may be those of a way: each but the last one has a channel behind it.
func mayFollow(hops []api.Hop) bool {
	if len(hops) < 1 || len(hops) > api.MaxHops {
		return false
	}
	for i, hop := range hops {
		last := i == len(hops)-1
		if !(part{hop: hop}).may() || last != (hop.Channel == 0) {
			return false
		}
	}
	return true
}

// put fills b with x, the highest byte first.
func put(b []byte, x int) {
	for i := range b {
		b[len(b)-1-i] = byte(x >> (8 * i))
	}
}

// number is the number whose bytes are b, the highest first. One that is beyond all amounts becomes one below 0, which no field may have.
func number(b []byte) int {
	x := uint64(0)
	for _, c := range b {
		x = x<<8 | uint64(c)
	}
	return int(x)
}
