package keccak

import (
	"math/bits"
	"testing"
)

// plainDistances are the distances by the document's rule.
func plainDistances() [5][5]int {
	var d [5][5]int
	x, y := 1, 0
	for t := range 24 {
		d[x][y] = (t + 1) * (t + 2) / 2 % 64
		x, y = y, (2*x+3*y)%5
	}
	return d
}

// plainConstants are the constants by the document's rule.
func plainConstants() [24]uint64 {
	var c [24]uint64
	register := 1
	for i := range 7 * 24 {
		n, j := i/7, i%7
		c[n] |= uint64(register&1) << (1<<j - 1)
		register *= 2
		if register >= 256 {
			register = register&255 ^ 0x71
		}
	}
	return c
}

// plainRound is a round, step by step as the document says it.
func plainRound(s [25]uint64, n int) [25]uint64 {
	word := func(s [25]uint64, x, y int) uint64 { return s[5*(y%5)+x%5] }
	column := func(x int) uint64 {
		return word(s, x, 0) ^ word(s, x, 1) ^ word(s, x, 2) ^ word(s, x, 3) ^ word(s, x, 4)
	}
	var mixed, moved, joined [25]uint64
	for i, w := range s {
		mixed[i] = w ^ column(i+4) ^ bits.RotateLeft64(column(i+1), 1)
	}
	distances := plainDistances()
	for i, w := range mixed {
		x, y := i%5, i/5
		moved[5*((2*x+3*y)%5)+y] = bits.RotateLeft64(w, distances[x][y])
	}
	for i, w := range moved {
		x, y := i%5, i/5
		joined[i] = w ^ ^word(moved, x+1, y)&word(moved, x+2, y)
	}
	joined[0] ^= plainConstants()[n]
	return joined
}

// states are some states: empty, full, of one bit each, and mixed ones.
func states() [][25]uint64 {
	var none, full, mixed [25]uint64
	l := [][25]uint64{none}
	for i := range 25 {
		full[i] = 1<<64 - 1
		mixed[i] = 0x9E3779B97F4A7C15 * uint64(i+1)
		one := none
		one[i] = 1 << (i * 5 % 64)
		l = append(l, one)
	}
	return append(l, full, mixed)
}

// P3.2: each round, of several states; what is handed in stays as it was.
func TestRound(t *testing.T) {
	for i, s := range states() {
		all := s
		for n := range 24 {
			if Round(s, n) != plainRound(s, n) {
				t.Errorf("Round(state %d, %d)", i, n)
			}
			all = plainRound(all, n)
		}
		if Rounds(s) != all {
			t.Errorf("Rounds(state %d)", i)
		}
		if s != states()[i] {
			t.Errorf("state %d was changed", i)
		}
	}
}

// P3.2: a round that there is not changes nothing.
func TestNoRound(t *testing.T) {
	for _, s := range states() {
		for _, n := range []int{-1, 24, 25, -1 << 63, 1<<63 - 1} {
			if Round(s, n) != s {
				t.Errorf("Round(.., %d) changes the state", n)
			}
		}
	}
}

// P3.2: what all rounds make of an empty state is known.
func TestRoundsKnown(t *testing.T) {
	s := Rounds([25]uint64{})
	if s[0] != 0xF1258F7940E1DDE7 || s[1] != 0x84D5CCF933C0478A || s[24] != 0xEAF1FF7B5CECA249 {
		t.Errorf("%X %X %X", s[0], s[1], s[24])
	}
}

// P3.2: distances, and 0 where there is no word.
func TestDistance(t *testing.T) {
	want := plainDistances()
	for x := -3; x < 12; x++ {
		for y := -3; y < 12; y++ {
			d := 0
			if x >= 0 && x < 5 && y >= 0 && y < 5 {
				d = want[x][y]
			}
			if got := Distance(x, y); got != d {
				t.Errorf("Distance(%d, %d) = %d, want %d", x, y, got, d)
			}
		}
	}
	if Distance(1, 0) != 1 || Distance(2, 0) != 62 || Distance(0, 1) != 36 || Distance(0, 0) != 0 {
		t.Error("distances that are known")
	}
	for _, far := range []int{-1 << 63, 1<<63 - 1, 1 << 32, 5, -5} {
		if Distance(far, 1) != 0 || Distance(1, far) != 0 || Distance(far, far) != 0 {
			t.Errorf("Distance at %d", far)
		}
	}
}

// P3.2: constants, and 0 where there is no round.
func TestConstant(t *testing.T) {
	for n, want := range plainConstants() {
		if got := Constant(n); got != want {
			t.Errorf("Constant(%d) = %X, want %X", n, got, want)
		}
	}
	for _, n := range []int{-1, 24, 25, -1 << 63, 1<<63 - 1} {
		if got := Constant(n); got != 0 {
			t.Errorf("Constant(%d) = %X", n, got)
		}
	}
}
