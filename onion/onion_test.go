package onion

import (
	"bytes"
	"crypto/sha3"
	"encoding/hex"
	"math"
	"math/rand"
	"slices"
	"testing"

	"tollhouse/api"
)

// P7.1: digests of packets, worked out apart from this program.
func TestBuildKnown(t *testing.T) {
	for n, want := range map[int]string{
		1: "07506cdeabec346f0837513219b6c428112d892a9164dc5a0224aaee0d594de3",
		2: "f6d48b8cf247f57632802e0105e309dd4515585bc229ede502b30b39402dc396",
		3: "b7c50bf00e02c992111e49ff8e02390cef6862102f375a5c398d780b86d9c430",
		8: "ce80caef9c3a36ef2a3bc21b01a983b7521976d8aeced4fec03bfb994158d0f7",
	} {
		keys, hops := fixedWay(n)
		p, e := Build(keys, hops, stepped(100), stepped(200))
		digest := sha3.Sum256(p)
		if got := hex.EncodeToString(digest[:]); e != api.OK || got != want {
			t.Errorf("Build of %d hops: %s, %d", n, got, e)
		}
	}
}

// P7.1, P7.4: each node of a way of any length gets the packet that the document says, finds its hop in it, and the last one no next packet.
func TestWholeWays(t *testing.T) {
	r := rand.New(rand.NewSource(1))
	for round := range 40 {
		n := 1 + round%8
		keys, hops := randomWay(r, n)
		nonce, hash := random32(r), random32(r)
		want := plainPackets(keys, hops, nonce, hash)
		p, e := Build(keys, hops, nonce, hash)
		if e != api.OK {
			t.Fatalf("Build of %d hops: %d", n, e)
		}
		for i := range n {
			if !bytes.Equal(p, want[i]) {
				t.Fatalf("the packet for the node %d of %d is another one", i, n)
			}
			h, next, e := Peel(keys[i], p, hash)
			if e != api.OK || h != hops[i] {
				t.Fatalf("Peel at the node %d of %d: %v, %d", i, n, h, e)
			}
			p = next
		}
		if len(p) != 0 {
			t.Fatalf("a packet of %d bytes behind the last one", len(p))
		}
	}
}

// P7.1: hops with all fields at their edges, the least and the greatest.
func TestHopEdges(t *testing.T) {
	full := [32]byte(bytes.Repeat([]byte{255}, 32))
	most := api.Hop{Channel: 65535, Amount: math.MaxInt64, Expiry: 1<<31 - 1, Secret: full, Total: math.MaxInt64, Set: full, Index: 1<<31 - 1, Share: full}
	last := most
	last.Channel = 0
	keys := [][32]byte{{}, {}, full, full}
	for _, hops := range [][]api.Hop{
		{{}}, {last}, {{Channel: 1}, {}}, {most, last}, {most, most, most, last}, {{Channel: 256}, {Amount: 1, Channel: 255}, {Total: 1 << 56, Channel: 1}, {Index: 1 << 24}},
	} {
		p, e := Build(keys[:len(hops)], hops, full, [32]byte{})
		for i, want := range hops {
			if e != api.OK || len(p) != 2112 {
				t.Fatalf("a packet of %d bytes, %d", len(p), e)
			}
			var got api.Hop
			if got, p, e = Peel(keys[i], p, [32]byte{}); got != want {
				t.Errorf("Peel: %v, want %v", got, want)
			}
		}
		if e != api.OK || len(p) != 0 {
			t.Errorf("behind the last one: %d bytes, %d", len(p), e)
		}
	}
}

// refused tells whether Build refuses this.
func refused(keys [][32]byte, hops []api.Hop) bool {
	p, e := Build(keys, hops, [32]byte{1}, [32]byte{2})
	return e == api.ErrArg && len(p) == 0
}

// P7.1: Build refuses too few and too many hops, and other numbers of keys.
func TestBuildCounts(t *testing.T) {
	keys, hops := fixedWay(9)
	for n := range 10 {
		for k := range 10 {
			h := slices.Clone(hops[:n])
			if n > 0 {
				h[n-1].Channel = 0
			}
			if want := n < 1 || n > 8 || k != n; refused(keys[:k], h) != want {
				t.Errorf("Build of %d hops and %d keys", n, k)
			}
		}
	}
	if !refused(nil, nil) || !refused(make([][32]byte, 1000), make([]api.Hop, 1000)) {
		t.Error("Build of none, or of many")
	}
}

// P7.1: Build refuses a hop that may not be, wherever it stands.
func TestBuildWrongHops(t *testing.T) {
	wrong := []func(h *api.Hop){
		func(h *api.Hop) { h.Channel = -1 },
		func(h *api.Hop) { h.Channel = 65536 },
		func(h *api.Hop) { h.Channel = 131072 },
		func(h *api.Hop) { h.Channel = math.MinInt64 },
		func(h *api.Hop) { h.Amount = -1 },
		func(h *api.Hop) { h.Amount = math.MinInt64 },
		func(h *api.Hop) { h.Expiry = -1 },
		func(h *api.Hop) { h.Expiry = 1 << 31 },
		func(h *api.Hop) { h.Expiry = 1 << 32 },
		func(h *api.Hop) { h.Total = -1 },
		func(h *api.Hop) { h.Total = math.MinInt64 },
		func(h *api.Hop) { h.Index = -1 },
		func(h *api.Hop) { h.Index = 1 << 31 },
		func(h *api.Hop) { h.Index = math.MaxInt64 },
	}
	for _, n := range []int{1, 2, 5, 8} {
		for place := range n {
			for i, spoil := range wrong {
				keys, hops := fixedWay(n)
				if spoil(&hops[place]); !refused(keys, hops) {
					t.Errorf("Build with the fault %d at %d of %d", i, place, n)
				}
			}
		}
	}
}

// P7.1: Build refuses a way that ends too early, or not at all.
func TestBuildChannels(t *testing.T) {
	for n := 1; n <= 8; n++ {
		for place := range n {
			keys, hops := fixedWay(n)
			hops[place].Channel = 5
			if place < n-1 {
				hops[place].Channel = 0
			}
			if !refused(keys, hops) {
				t.Errorf("Build of %d hops with the channel %d at %d", n, hops[place].Channel, place)
			}
		}
	}
}

// peels tells whether Peel answers e, and beside an error nothing.
func peels(key [32]byte, packet []byte, hash [32]byte, want api.Errno) bool {
	h, next, e := Peel(key, packet, hash)
	return e == want && (e == api.OK || h == api.Hop{} && len(next) == 0)
}

// P7.1, P7.2: packets of other lengths, whatever their tags.
func TestWrongLengths(t *testing.T) {
	keys, hops := fixedWay(2)
	p, _ := Build(keys, hops, [32]byte{1}, [32]byte{2})
	for _, n := range []int{0, 1, 31, 32, 64, 256, 2048, 2080, 2111} {
		if !peels(keys[0], p[:n], [32]byte{2}, api.ErrCode) {
			t.Errorf("Peel of %d bytes", n)
		}
		if own, e := Key(keys[0], p[:n]); e != api.ErrCode || own != [32]byte{} {
			t.Errorf("Key of %d bytes: %d", n, e)
		}
	}
	for _, more := range []int{1, 32, 256, 2112} {
		long := append(slices.Clone(p), make([]byte, more)...)
		if !peels(keys[0], long, [32]byte{2}, api.ErrCode) || !peels(keys[0], long, [32]byte{3}, api.ErrCode) {
			t.Errorf("Peel of %d bytes", len(long))
		}
		if own, e := Key(keys[0], long); e != api.ErrCode || own != [32]byte{} {
			t.Errorf("Key of %d bytes: %d", len(long), e)
		}
	}
	if !peels(keys[0], nil, [32]byte{2}, api.ErrCode) {
		t.Error("Peel of nothing")
	}
}

// P7.1: any bit of the packet, the key or the hash that is another one makes another tag.
func TestPeelTag(t *testing.T) {
	keys, hops := fixedWay(3)
	hash := [32]byte{2}
	p, _ := Build(keys, hops, [32]byte{1}, hash)
	for bit := 0; bit < len(p)*8; bit += 5 {
		q := slices.Clone(p)
		q[bit/8] ^= 1 << (bit % 8)
		if !peels(keys[0], q, hash, api.ErrTag) {
			t.Fatalf("Peel with the bit %d turned", bit)
		}
	}
	for bit := range 256 {
		turned := func(b [32]byte) [32]byte { b[bit/8] ^= 1 << (bit % 8); return b }
		if !peels(keys[0], p, turned(hash), api.ErrTag) || !peels(turned(keys[0]), p, hash, api.ErrTag) {
			t.Fatalf("Peel with the bit %d of the hash or the key turned", bit)
		}
	}
	// The packet of another node, and one that was opened already.
	_, q, _ := Peel(keys[0], p, hash)
	if !peels(keys[1], p, hash, api.ErrTag) || !peels(keys[0], q, hash, api.ErrTag) || !peels(keys[2], q, hash, api.ErrTag) {
		t.Error("Peel by another node")
	}
	if !peels(keys[0], make([]byte, 2112), hash, api.ErrTag) {
		t.Error("Peel of zeros")
	}
}

// P7.1: parts with a right tag around them that are of no hop that may be.
func TestPeelCode(t *testing.T) {
	key, nonce, hash := [32]byte{1}, [32]byte{2}, [32]byte{3}
	_, hops := fixedWay(2)
	for i, next := range [][32]byte{{4}, {}} {
		good := plainPart(hops[i], next)
		if !peels(key, crafted(key, good, nonce, hash), hash, api.OK) {
			t.Fatalf("Peel of a good part %d", i)
		}
		for at := 154; at < 256; at++ {
			for _, c := range []byte{1, 128, 255} {
				b := slices.Clone(good)
				b[at] = c
				p := crafted(key, b, nonce, hash)
				if !peels(key, p, hash, api.ErrCode) {
					t.Errorf("Peel of a part with %d at %d", c, at)
				}
				if !peels(key, p, [32]byte{}, api.ErrTag) {
					t.Error("ErrTag is named ahead of ErrCode")
				}
			}
		}
		// The highest bits of Amount, Expiry, Total and Index.
		for _, at := range []int{2, 10, 46, 86} {
			for _, c := range []byte{128, 255} {
				b := slices.Clone(good)
				b[at] = c
				if !peels(key, crafted(key, b, nonce, hash), hash, api.ErrCode) {
					t.Errorf("Peel of a part with %d at %d", c, at)
				}
				b[at] = 127
				if !peels(key, crafted(key, b, nonce, hash), hash, api.OK) {
					t.Errorf("Peel of a part with 127 at %d", at)
				}
			}
		}
	}
	if !peels(key, crafted(key, bytes.Repeat([]byte{255}, 256), nonce, hash), hash, api.ErrCode) {
		t.Error("Peel of a part full of bits")
	}
}

// P7.1: the last one's part has zeros for a tag; the others' may have any.
func TestPeelNextTag(t *testing.T) {
	key, nonce, hash := [32]byte{1}, [32]byte{2}, [32]byte{3}
	_, hops := fixedWay(2)
	for at := range 32 {
		next := [32]byte{}
		next[at] = 1
		if !peels(key, crafted(key, plainPart(hops[1], next), nonce, hash), hash, api.ErrCode) {
			t.Errorf("Peel of a last part whose tag has a bit at %d", at)
		}
		h, p, e := Peel(key, crafted(key, plainPart(hops[0], next), nonce, hash), hash)
		if e != api.OK || h != hops[0] || len(p) != 2112 || [32]byte(p[32:64]) != next {
			t.Errorf("Peel of a part whose tag has a bit at %d: %d", at, e)
		}
	}
	h, p, e := Peel(key, crafted(key, plainPart(hops[0], [32]byte{}), nonce, hash), hash)
	if e != api.OK || h != hops[0] || len(p) != 2112 || [32]byte(p[32:64]) != [32]byte{} || [32]byte(p) != sha3.Sum256(nonce[:]) {
		t.Errorf("Peel of a part with zeros for a tag: %d", e)
	}
}

// P7.2: keys of ways of any length, and of the packet at each node.
func TestKeys(t *testing.T) {
	r := rand.New(rand.NewSource(2))
	for _, n := range []int{0, 1, 2, 8, 9, 40} {
		keys, _ := randomWay(r, n)
		nonce := random32(r)
		_, want := plainKeys(keys, nonce)
		if got := Keys(keys, nonce); !slices.Equal(got, want) {
			t.Errorf("Keys of %d", n)
		}
	}
	if len(Keys(nil, [32]byte{1})) != 0 {
		t.Error("Keys of none")
	}
	keys, hops := fixedWay(8)
	own := Keys(keys, stepped(9))
	p, _ := Build(keys, hops, stepped(9), [32]byte{})
	for i, key := range keys {
		if got, e := Key(key, p); e != api.OK || got != own[i] {
			t.Errorf("Key at the node %d: %d", i, e)
		}
		_, p, _ = Peel(key, p, [32]byte{})
	}
	// Of a packet with any tag and body, too.
	if got, e := Key([32]byte{5}, make([]byte, 2112)); e != api.OK || got != plainTag([32]byte{5}, "onion", make([]byte, 32)) {
		t.Errorf("Key of zeros: %d", e)
	}
}

// R3: arguments stay as they are, with what is behind their ends; answers are new.
func TestMemory(t *testing.T) {
	keys, hops := fixedWay(8)
	hops[3].Channel = 0
	keysThen, hopsThen := slices.Clone(keys), slices.Clone(hops)
	p, _ := Build(keys[:4], hops[:4], [32]byte{1}, [32]byte{2})
	Keys(keys[:4], [32]byte{1})
	if !slices.Equal(keys, keysThen) || !slices.Equal(hops, hopsThen) {
		t.Error("Build or Keys changed what was handed in")
	}
	room := append(slices.Clone(p), bytes.Repeat([]byte{7}, 600)...)
	roomThen := slices.Clone(room)
	_, next, e := Peel(keys[0], room[:2112], [32]byte{2})
	if e != api.OK || !bytes.Equal(room, roomThen) {
		t.Error("Peel changed what was handed in")
	}
	Key(keys[0], room[:2112])
	for i := range room {
		room[i] = 0
	}
	if h, _, e := Peel(keys[1], next, [32]byte{2}); e != api.OK || h != hops[1] {
		t.Error("Peel's answer is in the packet's memory")
	}
	own := Keys(keys, [32]byte{1})
	clear(keys)
	if _, want := plainKeys(keysThen, [32]byte{1}); !slices.Equal(own, want) {
		t.Error("Keys' answer is in its argument's memory")
	}
}
