package secrets

import (
	"math/bits"
	"math/rand"
	"testing"

	"tollhouse/api"
)

// plainShelf keeps all that was put, and looks at all of them each time.
type plainShelf struct{ all [][32]byte }

func (s *plainShelf) put(secret [32]byte) api.Errno {
	if len(s.all) == 4096 {
		return api.ErrFull
	}
	for n, x := range s.all {
		if k, makes := plainMakes(len(s.all), n); makes && plainWalk(secret, 4095-n, k) != x {
			return api.ErrClash
		}
	}
	s.all = append(s.all, secret)
	return api.OK
}

// kept counts those that no later one makes.
func (s *plainShelf) kept() int {
	count := 0
	for n := range s.all {
		made := false
		for later := n + 1; later < len(s.all) && !made; later++ {
			_, made = plainMakes(later, n)
		}
		if !made {
			count++
		}
	}
	return count
}

// filled is a shelf with the first count secrets of seed.
func filled(t *testing.T, seed [32]byte, count int) *Shelf {
	t.Helper()
	s := NewShelf()
	for n := range count {
		if e := s.Put(At(seed, n)); e != api.OK {
			t.Fatalf("Put of the secret %d: %d", n, e)
		}
	}
	return s
}

// holds tells whether s has want, and nothing else.
func holds(s *Shelf, want [][32]byte) bool {
	for n, x := range want {
		if got, ok := s.Get(n); !ok || got != x {
			return false
		}
	}
	got, ok := s.Get(len(want))
	return s.Len() == len(want) && !ok && got == [32]byte{}
}

// P5.2: an empty shelf, and an answer to places that there are not.
func TestEmptyShelf(t *testing.T) {
	s := NewShelf()
	if s.Len() != 0 || s.Kept() != 0 {
		t.Errorf("an empty shelf: Len %d, Kept %d", s.Len(), s.Kept())
	}
	for _, n := range append(noPlaces(), 0, 1) {
		if got, ok := s.Get(n); ok || got != [32]byte{} {
			t.Errorf("Get(%d) of an empty shelf", n)
		}
	}
	if a, b := NewShelf(), NewShelf(); a.Put([32]byte{1}) != api.OK || b.Len() != 0 {
		t.Error("two new shelves are one")
	}
}

// P5.2, the document's example.
func TestKeptExample(t *testing.T) {
	if got := filled(t, testSeed(), 3).Kept(); got != 2 {
		t.Errorf("Kept of three is %d", got)
	}
}

// P5.2, P5.3: all secrets of a seed are taken and told again, and few are kept; then it is full.
func TestWholeSeed(t *testing.T) {
	seed := testSeed()
	s, plain := NewShelf(), &plainShelf{}
	random := rand.New(rand.NewSource(1))
	for n := range api.MaxSecrets {
		if e := s.Put(At(seed, n)); e != api.OK || s.Len() != n+1 {
			t.Fatalf("Put of the secret %d: %d, Len %d", n, e, s.Len())
		}
		plain.all = append(plain.all, At(seed, n))
		if n < 600 || n > 4085 {
			if s.Kept() != plain.kept() {
				t.Fatalf("Kept of %d is %d, want %d", n+1, s.Kept(), plain.kept())
			}
		}
		if s.Kept() < 1 || s.Kept() > 13 {
			t.Fatalf("Kept of %d is %d", n+1, s.Kept())
		}
		for _, old := range []int{0, n, n / 2, random.Intn(n + 1), random.Intn(n + 1)} {
			if got, ok := s.Get(old); !ok || got != plain.all[old] {
				t.Fatalf("Get(%d) of %d = %x, %v", old, n+1, got, ok)
			}
		}
		if _, ok := s.Get(n + 1); ok {
			t.Fatalf("Get(%d) of %d", n+1, n+1)
		}
	}
	if !holds(s, plain.all) || s.Kept() != 1 {
		t.Errorf("a full shelf does not tell all, or keeps %d", s.Kept())
	}
	for _, secret := range [][32]byte{{}, {9}, seed} {
		if e := s.Put(secret); e != api.ErrFull || !holds(s, plain.all) {
			t.Errorf("Put to a full shelf: %d", e)
		}
	}
	for _, n := range noPlaces() {
		if got, ok := s.Get(n); ok || got != [32]byte{} {
			t.Errorf("Get(%d) of a full shelf", n)
		}
	}
}

// P5.2: at every length up to 140, all that was put is told, and Kept is what must be kept.
func TestEveryLength(t *testing.T) {
	s, plain := NewShelf(), &plainShelf{}
	for n := range 140 {
		s.Put(At(testSeed(), n))
		plain.all = append(plain.all, At(testSeed(), n))
		if !holds(s, plain.all) || s.Kept() != plain.kept() {
			t.Fatalf("a shelf of %d", n+1)
		}
	}
}

// P5.2: a secret that clashes with any that were put is refused, and changes nothing.
func TestClash(t *testing.T) {
	seed := testSeed()
	s, plain := NewShelf(), &plainShelf{}
	for n := range 300 {
		right := At(seed, n)
		for _, bit := range []int{0, 1, 5, 11, 12, 100, 255} {
			wrong := right
			wrong[bit/8] ^= 1 << (bit % 8)
			// At an odd index there is nothing that it could clash with.
			if fork := s.Fork(); n%2 == 0 && fork.Put(wrong) != api.OK {
				t.Fatalf("Put of any secret at %d", n)
			}
			if n%2 == 0 {
				continue
			}
			if e := s.Put(wrong); e != api.ErrClash || s.Len() != n || s.Kept() != bits.OnesCount(uint(n)) {
				t.Fatalf("Put of a wrong secret at %d: %d, Len %d", n, e, s.Len())
			}
		}
		if n%16 == 15 && !holds(s, plain.all) {
			t.Fatalf("a clash at %d changed the shelf", n)
		}
		if e := s.Put(right); e != api.OK {
			t.Fatalf("Put of the right secret at %d behind a clash: %d", n, e)
		}
		plain.all = append(plain.all, right)
	}
}

// blocks is as many secrets as fit below the place of 2^k: half of them made by one secret, half of the rest by another one, and so on.
// The block of 2^odd is of the seed strange, the others are of seed.
func blocks(seed, strange [32]byte, k, odd int) [][32]byte {
	var all [][32]byte
	for size := k - 1; size >= 0; size-- {
		from := seed
		if size == odd {
			from = strange
		}
		for range 1 << size {
			all = append(all, At(from, len(all)))
		}
	}
	return all
}

// P5.2: one block of all that a secret should make is of another seed: it clashes, whichever it is.
func TestOneStrangeBlock(t *testing.T) {
	seed, strange := testSeed(), [32]byte{1, 2, 3}
	for _, k := range []int{1, 2, 3, 5, 8} {
		for odd := range k {
			s, plain := NewShelf(), &plainShelf{}
			for n, secret := range blocks(seed, strange, k, odd) {
				if e, want := s.Put(secret), plain.put(secret); e != want || want != api.OK {
					t.Fatalf("Put of the secret %d: %d, want %d", n, e, want)
				}
			}
			if !holds(s, plain.all) || s.Kept() != k {
				t.Errorf("blocks below 2^%d, with a strange one of 2^%d: Kept %d", k, odd, s.Kept())
			}
			for _, secret := range [][32]byte{At(seed, s.Len()), At(strange, s.Len()), {}} {
				if e, want := s.Put(secret), plain.put(secret); e != want || !holds(s, plain.all) {
					t.Errorf("Put behind a strange block of 2^%d below 2^%d: %d, want %d", odd, k, e, want)
				}
			}
		}
	}
}

// P5.2, P5.3: the longest list of secrets of which none is made by all: twelve blocks, each of another seed.
func TestManySeeds(t *testing.T) {
	s := NewShelf()
	var all [][32]byte
	for size := 11; size >= 0; size-- {
		for range 1 << size {
			secret := At([32]byte{byte(size)}, len(all))
			all = append(all, secret)
			if e := s.Put(secret); e != api.OK {
				t.Fatalf("Put of the secret %d: %d", len(all)-1, e)
			}
		}
	}
	if !holds(s, all) || s.Kept() != 12 {
		t.Errorf("twelve blocks: Kept %d", s.Kept())
	}
	for size := range 12 {
		if e := s.Put([32]byte{byte(size)}); e != api.ErrClash || s.Len() != 4095 {
			t.Errorf("Put of the seed %d: %d", size, e)
		}
	}
}

// P5.2: zeros are a secret like others.
func TestZerosPut(t *testing.T) {
	s := NewShelf()
	if e := s.Put([32]byte{}); e != api.OK || s.Len() != 1 || s.Kept() != 1 {
		t.Errorf("Put of zeros: %d", e)
	}
	if got, ok := s.Get(0); !ok || got != [32]byte{} {
		t.Error("zeros are not told again")
	}
	if e := s.Put([32]byte{}); e != api.ErrClash {
		t.Errorf("zeros do not make zeros: %d", e)
	}
}

// P5.2, R3: a fork is the same, and goes its own way.
func TestFork(t *testing.T) {
	seed := testSeed()
	for _, count := range []int{0, 1, 2, 7, 8, 100} {
		s := filled(t, seed, count)
		fork := s.Fork()
		var all [][32]byte
		for n := range count {
			all = append(all, At(seed, n))
		}
		if fork == s || !holds(fork, all) || fork.Kept() != s.Kept() {
			t.Fatalf("a fork of %d is another one", count)
		}
		for n := count; n < count+20; n++ {
			s.Put(At(seed, n))
		}
		if !holds(fork, all) {
			t.Errorf("a fork of %d was changed by its origin", count)
		}
		for n := count; n < count+3; n++ {
			fork.Put(At(seed, n))
		}
		if s.Len() != count+20 || fork.Len() != count+3 {
			t.Errorf("Len %d and %d behind a fork of %d", s.Len(), fork.Len(), count)
		}
	}
}

// P5.2: a nil Shelf.
func TestNilShelf(t *testing.T) {
	var s *Shelf
	if e := s.Put([32]byte{1}); e != api.ErrClosed {
		t.Errorf("Put: %d", e)
	}
	if got, ok := s.Get(0); ok || got != [32]byte{} {
		t.Error("Get")
	}
	if s.Len() != 0 || s.Kept() != 0 || s.Fork() != nil {
		t.Error("Len, Kept or Fork")
	}
}
