package share

import (
	"crypto/sha3"
	"encoding/binary"
	"encoding/hex"
	"math"
	"math/rand"
	"slices"
	"testing"

	"tollhouse/api"
)

// plainTag is a tag, written down from the document.
func plainTag(key [32]byte, label string, parts ...[]byte) [32]byte {
	b := append([]byte{byte(len(label))}, label...)
	b = append(b, key[:]...)
	for _, part := range parts {
		b = binary.LittleEndian.AppendUint64(b, uint64(len(part)))
		b = append(b, part...)
	}
	return sha3.Sum256(b)
}

func plainNumber(n int) []byte {
	return binary.LittleEndian.AppendUint64(nil, uint64(n))
}

// plainSecret is the secret of a part, and its hash.
func plainSecret(root, set [32]byte, index int) (secret, hash [32]byte) {
	secret = plainTag(root, "part", set[:], plainNumber(index))
	return secret, sha3.Sum256(secret[:])
}

func plainSum(a, b [32]byte) [32]byte {
	for i := range a {
		a[i] ^= b[i]
	}
	return a
}

func random32(r *rand.Rand) [32]byte {
	var b [32]byte
	r.Read(b[:])
	return b
}

// stepped is 32 bytes that begin with x.
func stepped(x int) [32]byte {
	var b [32]byte
	for i := range b {
		b[i] = byte(x + 7*i)
	}
	return b
}

func text(b [32]byte) string {
	return hex.EncodeToString(b[:])
}

// wrongIndexes may not be.
func wrongIndexes() []int {
	return []int{-1, -2, 1 << 31, 1<<31 + 1, 1 << 32, math.MinInt64, math.MaxInt64}
}

// P8.1: values worked out apart from this program.
func TestKnown(t *testing.T) {
	root, seed, set := stepped(1), stepped(2), stepped(3)
	for n, want := range map[int]string{
		1:  "244a6a7830f97956b1b4f0df8d4d3224a8d44a0c6e61d49b722deb8775dce050",
		2:  "34615b2b2b4fb62328819e340fcb7e0a11f7718c75f58c1912f55f1bff0da522",
		16: "0811d808e958a5cc0b66c315e1a3d2ee421c287ef4463ea481d514dc28c78995",
	} {
		l, e := Split(root, seed, n)
		var all []byte
		for _, share := range l {
			all = append(all, share[:]...)
		}
		if got := text(sha3.Sum256(all)); got != want || e != api.OK || len(l) != n {
			t.Errorf("Split of %d: %s, %d", n, got, e)
		}
	}
	for index, want := range map[int][2]string{
		0:         {"8ec54658b9c9612dfcfa9e3055c518837d0c519728cc19b98878df1665e31b94", "8cb60b213515b1b52d8bb0ab352a318f612e325c0a6365bdb27a550685319a2d"},
		258:       {"d6a6093fb04ecb8aff22e6e8ac6dde9a321c7f45a8ee4e8ee967a1bd875803a5", "d73c4a316c9d54635d67faf2530e15d375a6d212364382a7b5dade85d47d00f6"},
		1<<31 - 1: {"51cc3d05512b7b13806555776522350e5058491ce2e6a508eaaeb574a1489dd1", "40ed14d04767146450955408580fe146cc25649fcb111d43899ab4cb6fe1759f"},
	} {
		if got := [2]string{text(Secret(root, set, index)), text(Hash(root, set, index))}; got != want {
			t.Errorf("Secret and Hash of %d: %s", index, got)
		}
	}
}

// P8.1, P8.3: shares of any number of parts; joined, they are the root.
func TestSplit(t *testing.T) {
	r := rand.New(rand.NewSource(1))
	for n := 1; n <= 16; n++ {
		root, seed := random32(r), random32(r)
		l, e := Split(root, seed, n)
		if e != api.OK || len(l) != n {
			t.Fatalf("Split of %d: %d shares, %d", n, len(l), e)
		}
		last := root
		for i := range n - 1 {
			if l[i] != plainTag(seed, "share", plainNumber(i)) {
				t.Errorf("share %d of %d", i, n)
			}
			last = plainSum(last, l[i])
		}
		if l[n-1] != last || Join(l...) != root {
			t.Errorf("the last share of %d", n)
		}
		// Without one of them, or with one changed, the root is another one.
		for i := range l {
			if l[i] != [32]byte{} && Join(slices.Delete(slices.Clone(l), i, i+1)...) == root {
				t.Errorf("the root of %d without share %d", n, i)
			}
			for bit := range 256 {
				other := slices.Clone(l)
				other[i][bit/8] ^= 1 << (bit % 8)
				if Join(other...) == root {
					t.Errorf("the root of %d with share %d changed", n, i)
				}
			}
		}
	}
}

// P8.1, the document's example: split of 1 is the root itself, whatever the seed.
func TestSplitOne(t *testing.T) {
	for _, root := range [][32]byte{{}, {1}, stepped(9)} {
		if l, e := Split(root, [32]byte{2}, 1); e != api.OK || len(l) != 1 || l[0] != root {
			t.Errorf("Split of 1: %x, %d", l, e)
		}
	}
}

// P8.1: Split refuses other numbers of parts.
func TestSplitRefuses(t *testing.T) {
	for _, n := range []int{0, -1, 17, 18, 32, 256, math.MinInt64, math.MaxInt64} {
		if l, e := Split([32]byte{1}, [32]byte{2}, n); e != api.ErrArg || len(l) != 0 {
			t.Errorf("Split of %d: %d shares, %d", n, len(l), e)
		}
	}
}

// P8.1: sums of as many as one likes.
func TestJoin(t *testing.T) {
	r := rand.New(rand.NewSource(2))
	a, b := random32(r), random32(r)
	if Join() != [32]byte{} || Join(nil...) != [32]byte{} || Join(a) != a || Join(a, a) != [32]byte{} || Join(a, b, a) != b {
		t.Error("Join of few")
	}
	var all [][32]byte
	var want [32]byte
	for range 1000 {
		if Join(all...) != want {
			t.Fatalf("Join of %d", len(all))
		}
		all = append(all, random32(r))
		want = plainSum(want, all[len(all)-1])
	}
}

// P8.1: secrets and hashes of parts, and zeros for indexes that may not be.
func TestSecretHash(t *testing.T) {
	r := rand.New(rand.NewSource(3))
	for _, index := range []int{0, 1, 15, 255, 256, 65536, 1<<31 - 2, 1<<31 - 1} {
		root, set := random32(r), random32(r)
		secret, hash := plainSecret(root, set, index)
		if Secret(root, set, index) != secret || Hash(root, set, index) != hash {
			t.Errorf("Secret or Hash of %d", index)
		}
	}
	for _, index := range wrongIndexes() {
		if Secret(stepped(1), stepped(2), index) != [32]byte{} || Hash(stepped(1), stepped(2), index) != [32]byte{} {
			t.Errorf("Secret or Hash of %d", index)
		}
	}
}

// parts is a set of n parts as they are handed to Check.
type parts struct {
	set     [32]byte
	shares  [][32]byte
	indexes []int
	hashes  [][32]byte
	secrets [][32]byte // what Check should answer
}

func randomParts(r *rand.Rand, n int) parts {
	root := random32(r)
	p := parts{set: random32(r), indexes: r.Perm(1000)[:n]}
	p.indexes[0] = 1<<31 - 1
	rest := root
	for i, index := range p.indexes {
		share := random32(r)
		if i == n-1 {
			share = rest
		}
		rest = plainSum(rest, share)
		secret, hash := plainSecret(root, p.set, index)
		p.shares, p.hashes, p.secrets = append(p.shares, share), append(p.hashes, hash), append(p.secrets, secret)
	}
	return p
}

func (p parts) clone() parts {
	return parts{p.set, slices.Clone(p.shares), slices.Clone(p.indexes), slices.Clone(p.hashes), p.secrets}
}

// good tells whether Check answers the secrets.
func (p parts) good() bool {
	l, ok := Check(p.set, p.shares, p.indexes, p.hashes)
	return ok && slices.Equal(l, p.secrets)
}

// bad tells whether Check answers nothing and false.
func (p parts) bad() bool {
	l, ok := Check(p.set, p.shares, p.indexes, p.hashes)
	return !ok && len(l) == 0
}

// P8.2: sets of 1 to 16 parts, in any order.
func TestCheck(t *testing.T) {
	r := rand.New(rand.NewSource(4))
	for n := 1; n <= 16; n++ {
		p := randomParts(r, n)
		if !p.good() {
			t.Errorf("Check of %d", n)
		}
		// Any share may go with any index: it is their sum that counts.
		slices.Reverse(p.shares)
		if !p.good() {
			t.Errorf("Check of %d with shares turned round", n)
		}
		slices.Reverse(p.indexes)
		slices.Reverse(p.hashes)
		slices.Reverse(p.secrets)
		if !p.good() {
			t.Errorf("Check of %d turned round", n)
		}
	}
}

// P8.2: numbers of parts that may not be.
func TestCheckCounts(t *testing.T) {
	r := rand.New(rand.NewSource(5))
	if !(parts{}).bad() || !(parts{shares: [][32]byte{}, indexes: []int{}, hashes: [][32]byte{}}).bad() {
		t.Error("Check of none")
	}
	for _, n := range []int{17, 18, 100} {
		if p := randomParts(r, n); !p.bad() {
			t.Errorf("Check of %d", n)
		}
	}
	for _, n := range []int{1, 2, 5, 16} {
		p := randomParts(r, n)
		for a := range n + 1 {
			for b := range n + 1 {
				for c := range n + 1 {
					q := parts{p.set, p.shares[:a], p.indexes[:b], p.hashes[:c], nil}
					// Only all of them will do: of fewer the root is another one.
					if all := a == n && b == n && c == n; !all && !q.bad() {
						t.Errorf("Check of %d shares, %d indexes, %d hashes of %d", a, b, c, n)
					}
				}
			}
		}
		// One more of each, which would change no sum.
		for i, q := range []parts{p.clone(), p.clone(), p.clone()} {
			switch i {
			case 0:
				q.shares = append(q.shares, [32]byte{})
			case 1:
				q.indexes = append(q.indexes, 2000)
			case 2:
				q.hashes = append(q.hashes, [32]byte{})
			}
			if !q.bad() {
				t.Errorf("Check of %d with one more at %d", n, i)
			}
		}
	}
}

// P8.2: an index twice, with its right hash.
func TestCheckTwice(t *testing.T) {
	r := rand.New(rand.NewSource(6))
	for _, n := range []int{2, 3, 16} {
		for a := range n {
			for b := range n {
				p := randomParts(r, n)
				if a == b {
					continue
				}
				p.indexes[a], p.hashes[a], p.secrets[a] = p.indexes[b], p.hashes[b], p.secrets[b]
				if !p.bad() {
					t.Errorf("Check of %d with the index of %d at %d too", n, b, a)
				}
			}
		}
	}
}

// P8.2, P8.3: one thing changed at any place.
func TestCheckChanged(t *testing.T) {
	r := rand.New(rand.NewSource(7))
	for _, n := range []int{1, 2, 3, 16} {
		p := randomParts(r, n)
		for i := range n {
			for at := range 32 {
				q := p.clone()
				if q.shares[i][at] ^= 1; !q.bad() {
					t.Errorf("Check of %d with share %d changed", n, i)
				}
				q = p.clone()
				if q.hashes[i][at] ^= 128; !q.bad() {
					t.Errorf("Check of %d with hash %d changed", n, i)
				}
				q = p.clone()
				if q.set[at] ^= 1; !q.bad() {
					t.Errorf("Check of %d with the set changed", n)
				}
			}
			q := p.clone()
			if q.indexes[i] = 1500; !q.bad() {
				t.Errorf("Check of %d with index %d changed", n, i)
			}
			q = p.clone()
			if q.hashes[i] = p.secrets[i]; !q.bad() {
				t.Errorf("Check of %d with a secret for hash %d", n, i)
			}
			if q = p.clone(); n > 1 {
				q.hashes[i], q.hashes[(i+1)%n] = q.hashes[(i+1)%n], q.hashes[i]
				if !q.bad() {
					t.Errorf("Check of %d with hashes %d turned round", n, i)
				}
			}
		}
	}
}

// P8.2: an index that may not be has no hash, not even the zeros that Hash answers, nor what the tag would be.
func TestCheckWrongIndex(t *testing.T) {
	r := rand.New(rand.NewSource(8))
	for _, n := range []int{1, 3} {
		for _, index := range wrongIndexes() {
			for i := range n {
				p := randomParts(r, n)
				_, tagged := plainSecret(Join(p.shares...), p.set, index)
				for _, hash := range [][32]byte{{}, sha3.Sum256(make([]byte, 32)), tagged} {
					p.indexes[i], p.hashes[i] = index, hash
					if !p.bad() {
						t.Errorf("Check with the index %d and the hash %x", index, hash)
					}
				}
			}
		}
	}
}

// P8.3: what was split is joined, and checked.
func TestSplitChecked(t *testing.T) {
	r := rand.New(rand.NewSource(9))
	for n := 1; n <= 16; n++ {
		root, set := random32(r), random32(r)
		p := parts{set: set}
		p.shares, _ = Split(root, random32(r), n)
		for i := range n {
			p.indexes = append(p.indexes, i)
			p.hashes = append(p.hashes, Hash(root, set, i))
			p.secrets = append(p.secrets, Secret(root, set, i))
		}
		if !p.good() {
			t.Errorf("Check of %d shares that were split", n)
		}
	}
}

// R3: arguments stay as they are, answers are new.
func TestMemory(t *testing.T) {
	r := rand.New(rand.NewSource(10))
	p := randomParts(r, 16)
	then := p.clone()
	Join(p.shares[:7]...)
	Check(p.set, p.shares[:7], p.indexes[:7], p.hashes[:7])
	l, _ := Check(p.set, p.shares, p.indexes, p.hashes)
	if !slices.Equal(p.shares, then.shares) || !slices.Equal(p.indexes, then.indexes) || !slices.Equal(p.hashes, then.hashes) {
		t.Error("what was handed in was changed")
	}
	clear(p.shares)
	clear(p.hashes)
	if !slices.Equal(l, p.secrets) {
		t.Error("Check's answer is in its arguments' memory")
	}
}
