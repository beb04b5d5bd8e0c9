package keccak

import "math/bits"

// rounds is how many rounds there are, an even number.
const rounds = 24

// constants are the rounds' constants, written out: to run the register would cost more than the rounds.
var constants = [rounds]uint64{
	0x0000000000000001, 0x0000000000008082, 0x800000000000808A, 0x8000000080008000,
	0x000000000000808B, 0x0000000080000001, 0x8000000080008081, 0x8000000000008009,
	0x000000000000008A, 0x0000000000000088, 0x0000000080008009, 0x000000008000000A,
	0x000000008000808B, 0x800000000000008B, 0x8000000000008089, 0x8000000000008003,
	0x8000000000008002, 0x8000000000000080, 0x000000000000800A, 0x800000008000000A,
	0x8000000080008081, 0x8000000000008080, 0x0000000080000001, 0x8000000080008008,
}

// Rounds is state behind all rounds.
func Rounds(state [25]uint64) [25]uint64 {
	var next [25]uint64
	// Two at a time, to and fro: to copy the state behind each round takes longer than the round.
	for n := 0; n < rounds; n += 2 {
		round(&next, &state, n)
		round(&state, &next, n+1)
	}
	return state
}

// Round is state behind the round n.
func Round(state [25]uint64, n int) [25]uint64 {
	if n < 0 || n >= rounds {
		return state
	}
	var next [25]uint64
	round(&next, &state, n)
	return next
}

// Distance is by how much the word (x, y) is turned.
func Distance(x, y int) int {
	// The word (0, 0), which the steps do not come to, and all that are none.
	distance := 0
	atX, atY := 1, 0
	for t := range rounds {
		if atX == x && atY == y {
			distance = (t + 1) * (t + 2) / 2 % 64
		}
		atX, atY = atY, (2*atX+3*atY)%5
	}
	return distance
}

// Constant is that of the round n.
func Constant(n int) uint64 {
	if n < 0 || n >= rounds {
		return 0
	}
	return constants[n]
}

// round makes next of s by the round n. It is written out, with the words' distances, as all digests of the net go through it.
func round(next, s *[25]uint64, n int) {
	a := s[0] ^ s[5] ^ s[10] ^ s[15] ^ s[20]
	b := s[1] ^ s[6] ^ s[11] ^ s[16] ^ s[21]
	c := s[2] ^ s[7] ^ s[12] ^ s[17] ^ s[22]
	d := s[3] ^ s[8] ^ s[13] ^ s[18] ^ s[23]
	e := s[4] ^ s[9] ^ s[14] ^ s[19] ^ s[24]
	a, b, c, d, e = e^turn(1, b), a^turn(1, c), b^turn(1, d), c^turn(1, e), d^turn(1, a)

	next[0], next[1], next[2], next[3], next[4] = row(
		s[0]^a, turn(44, s[6]^b), turn(43, s[12]^c), turn(21, s[18]^d), turn(14, s[24]^e))
	next[5], next[6], next[7], next[8], next[9] = row(
		turn(28, s[3]^d), turn(20, s[9]^e), turn(3, s[10]^a), turn(45, s[16]^b), turn(61, s[22]^c))
	next[10], next[11], next[12], next[13], next[14] = row(
		turn(1, s[1]^b), turn(6, s[7]^c), turn(25, s[13]^d), turn(8, s[19]^e), turn(18, s[20]^a))
	next[15], next[16], next[17], next[18], next[19] = row(
		turn(27, s[4]^e), turn(36, s[5]^a), turn(10, s[11]^b), turn(15, s[17]^c), turn(56, s[23]^d))
	next[20], next[21], next[22], next[23], next[24] = row(
		turn(62, s[2]^c), turn(55, s[8]^d), turn(39, s[14]^e), turn(41, s[15]^a), turn(2, s[21]^b))
	next[0] ^= constants[n]
}

// turn is w turned by n bits to the left.
func turn(n int, w uint64) uint64 {
	return bits.RotateLeft64(w, n)
}

// row adds to each word the second to its right, where the first to its right has no bits.
func row(a, b, c, d, e uint64) (uint64, uint64, uint64, uint64, uint64) {
	return a ^ c&^b, b ^ d&^c, c ^ e&^d, d ^ a&^e, e ^ b&^a
}
