package secrets

import (
	"crypto/sha3"
	"encoding/hex"
	"math"
	"testing"

	"tollhouse/api"
)

func testSeed() [32]byte {
	var seed [32]byte
	for i := range seed {
		seed[i] = byte(i)
	}
	return seed
}

// plainWalk is the rule of the document, word by word: from the bit below k down, each bit of index that is set.
func plainWalk(secret [32]byte, index, k int) [32]byte {
	for bit := k - 1; bit >= 0; bit-- {
		if index&(1<<bit) == 0 {
			continue
		}
		secret[bit/8] ^= byte(1 << (bit % 8))
		secret = sha3.Sum256(secret[:])
	}
	return secret
}

// plainMakes tells, with which k, whether the secret from makes the secret to, by trying each k.
func plainMakes(from, to int) (int, bool) {
	i, j := 4095-from, 4095-to
	for k := 12; k >= 0; k-- {
		if i%(1<<k) == 0 && i>>k == j>>k {
			return k, true
		}
	}
	return 0, false
}

// noPlaces are numbers of secrets that there are not.
func noPlaces() []int {
	return []int{-1, -2, -4095, -4096, 4096, 4097, 8191, 8192, 1 << 32, 1<<32 + 5, math.MinInt, math.MaxInt}
}

// P5.1: secrets and points that another program worked out, the first and the last among them.
func TestVectors(t *testing.T) {
	for _, c := range []struct {
		n             int
		secret, point string
	}{
		{0, "0d912e0ed86035b2a08b548db206669143540212159114252b16fcd63239e3ab", "bc68adffcf3f5fb7ba9eb93c481e7ed38c2f781f39d21aeb4fab40e98b1fe5bb"},
		{1, "222f3ce84fe08b821d729195f08d98e45ea4e5a6f8bf969d0b271f485558897f", "02be6d5883f50ab4116735bbdfdc78e8b93bd9b5cdb99421cbbc942eed185ef6"},
		{17, "be54bac20c2e041dd743f53eb9dc9e912dbedd9f59c9b357f8a56af49d2c5de0", "29794f4dc51b0644d1658de1cf2a81ace00fd9197d091d1f66704cb46cc38622"},
		{2047, "8a663ec874b717e030ef4e0cf87b59e112182357cd2cddd78dd104f283a03dd8", "43548388efd2f8da243f7fd55b9a52f9501f9e3d4d993bf735e4487378683e9f"},
		{2048, "bb8df80389b9babc44bb62620024d0f461881cff12c2b5a5aad464e19a529fd4", "c1a8fe88eabde16e5c00b2ead1826fa6b1478a3ab44a81066726afe012589bcc"},
		{4094, "0611b8147a3b8dfbfa4b87f4c0b890148f782f691c3c3019661a8f765dd3ae1b", "f2a074e5a85e2897ed84251be9c47f3b1939904984e7716a61290350a2236162"},
		{4095, "000102030405060708090a0b0c0d0e0f101112131415161718191a1b1c1d1e1f", "050a48733bd5c2756ba95c5828cc83ee16fabcd3c086885b7744f84a0f9e0d94"},
	} {
		secret, point := At(testSeed(), c.n), Point(testSeed(), c.n)
		if hex.EncodeToString(secret[:]) != c.secret {
			t.Errorf("At(.., %d) = %x, want %s", c.n, secret, c.secret)
		}
		if hex.EncodeToString(point[:]) != c.point {
			t.Errorf("Point(.., %d) = %x, want %s", c.n, point, c.point)
		}
	}
}

// P5.1: all secrets of some seeds, and their points, by the document's rule.
func TestAll(t *testing.T) {
	for _, seed := range [][32]byte{{}, {255, 255}, testSeed()} {
		for n := range api.MaxSecrets {
			want := plainWalk(seed, 4095-n, 12)
			if At(seed, n) != want {
				t.Fatalf("At(%x, %d)", seed, n)
			}
			if Point(seed, n) != sha3.Sum256(want[:]) {
				t.Fatalf("Point(%x, %d)", seed, n)
			}
		}
	}
}

// P5.1: beyond the secrets there are zeros, for points too.
func TestNone(t *testing.T) {
	for _, n := range noPlaces() {
		if At(testSeed(), n) != [32]byte{} || Point(testSeed(), n) != [32]byte{} {
			t.Errorf("a secret or point %d", n)
		}
	}
}

// P5.1: Make of every pair: what it refuses, and what it makes.
func TestMake(t *testing.T) {
	secret := [32]byte{7, 31: 7}
	for from := range api.MaxSecrets {
		for to := range api.MaxSecrets {
			k, makes := plainMakes(from, to)
			got, e := Make(secret, from, to)
			switch {
			case makes && (e != api.OK || got != plainWalk(secret, 4095-to, k)):
				t.Fatalf("Make(.., %d, %d) = %x, %d", from, to, got, e)
			case !makes && (e != api.ErrArg || got != [32]byte{}):
				t.Fatalf("Make(.., %d, %d) = %x, %d, want ErrArg", from, to, got, e)
			}
		}
	}
}

// P5.1: Make at places that there are not, on either side.
func TestMakeNone(t *testing.T) {
	for _, n := range noPlaces() {
		for _, pair := range [][2]int{{n, 0}, {n, 4095}, {n, n}, {0, n}, {4095, n}, {2047, n}} {
			if got, e := Make(testSeed(), pair[0], pair[1]); e != api.ErrArg || got != [32]byte{} {
				t.Errorf("Make(.., %d, %d) = %x, %d", pair[0], pair[1], got, e)
			}
		}
	}
}

// P5.1: a seed's secrets make each other as At tells them.
func TestMakeOfSeed(t *testing.T) {
	seed := testSeed()
	for _, from := range []int{1, 3, 5, 7, 1023, 2047, 3071, 4091, 4093, 4094, 4095} {
		for to := range from + 1 {
			if _, makes := plainMakes(from, to); !makes {
				continue
			}
			if got, e := Make(At(seed, from), from, to); e != api.OK || got != At(seed, to) {
				t.Fatalf("Make(At(.., %d), .., %d) = %x, %d", from, to, got, e)
			}
		}
	}
}
