package onion

import (
	"crypto/sha3"
	"encoding/binary"
	"math/rand"

	"tollhouse/api"
)

// What follows is written down from the document, with the library's digests.

func plainHead(key [32]byte, label string) []byte {
	b := append([]byte{byte(len(label))}, label...)
	return append(b, key[:]...)
}

func plainTag(key [32]byte, label string, parts ...[]byte) [32]byte {
	b := plainHead(key, label)
	for _, part := range parts {
		b = binary.LittleEndian.AppendUint64(b, uint64(len(part)))
		b = append(b, part...)
	}
	return sha3.Sum256(b)
}

// plainMask is the first n bytes of a mask.
func plainMask(key [32]byte, label string, n int) []byte {
	return sha3.SumSHAKE128(plainHead(key, label), n)
}

// sum is a and b, byte by byte; b is as long or longer.
func sum(a, b []byte) []byte {
	out := make([]byte, len(a))
	for i := range a {
		out[i] = a[i] ^ b[i]
	}
	return out
}

// plainPart is the bytes of a hop's part, at 256.
func plainPart(h api.Hop, next [32]byte) []byte {
	b := binary.BigEndian.AppendUint16(nil, uint16(h.Channel))
	b = binary.BigEndian.AppendUint64(b, uint64(h.Amount))
	b = binary.BigEndian.AppendUint32(b, uint32(h.Expiry))
	b = append(b, h.Secret[:]...)
	b = binary.BigEndian.AppendUint64(b, uint64(h.Total))
	b = append(b, h.Set[:]...)
	b = binary.BigEndian.AppendUint32(b, uint32(h.Index))
	b = append(b, h.Share[:]...)
	b = append(b, next[:]...)
	return append(b, make([]byte, 256-len(b))...)
}

// plainKeys is the nonces of a way, and the packet's keys on it.
func plainKeys(keys [][32]byte, nonce [32]byte) (nonces, own [][32]byte) {
	for _, key := range keys {
		nonces = append(nonces, nonce)
		own = append(own, plainTag(key, "onion", nonce[:]))
		nonce = sha3.Sum256(nonce[:])
	}
	return nonces, own
}

// plainPackets is the packets that each node of a way gets.
func plainPackets(keys [][32]byte, hops []api.Hop, nonce, hash [32]byte) [][]byte {
	nonces, own := plainKeys(keys, nonce)
	var filler []byte
	for _, key := range own[:len(own)-1] {
		filler = append(filler, make([]byte, 256)...)
		filler = sum(filler, plainMask(key, "body", 2304)[2304-len(filler):])
	}
	packets := make([][]byte, len(hops))
	var tag [32]byte
	body := make([]byte, 2048)
	for i := len(hops) - 1; i >= 0; i-- {
		body = append(plainPart(hops[i], tag), body...)[:2048]
		body = sum(body, plainMask(own[i], "body", 2048))
		if i == len(hops)-1 {
			body = append(body[:2048-len(filler)], filler...)
		}
		tag = plainTag(own[i], "tag", body, hash[:])
		packets[i] = plainPacket(nonces[i], tag, body)
	}
	return packets
}

func plainPacket(nonce, tag [32]byte, body []byte) []byte {
	b := append([]byte{}, nonce[:]...)
	b = append(b, tag[:]...)
	return append(b, body...)
}

// crafted is a packet whose tag is right, and whose part for the node that has key is these bytes.
func crafted(key [32]byte, part []byte, nonce, hash [32]byte) []byte {
	own := plainTag(key, "onion", nonce[:])
	body := sum(append(append([]byte{}, part...), make([]byte, 2048-256)...), plainMask(own, "body", 2048))
	return plainPacket(nonce, plainTag(own, "tag", body, hash[:]), body)
}

// plainFail is an error that arose at own[i], when it is back at own[0].
func plainFail(own [][32]byte, i int, reason []byte) []byte {
	text := append(append([]byte{}, reason...), make([]byte, 64-len(reason))...)
	tag := plainTag(own[i], "fail", text)
	b := append(tag[:], text...)
	for ; i >= 0; i-- {
		b = sum(b, plainMask(own[i], "back", 96))
	}
	return b
}

func random32(r *rand.Rand) [32]byte {
	var b [32]byte
	r.Read(b[:])
	return b
}

// randomWay is keys and hops of a way of n nodes.
func randomWay(r *rand.Rand, n int) (keys [][32]byte, hops []api.Hop) {
	for i := range n {
		keys = append(keys, random32(r))
		h := api.Hop{
			Amount: r.Int(), Expiry: int(r.Int31()), Secret: random32(r),
			Total: r.Int(), Set: random32(r), Index: int(r.Int31()), Share: random32(r),
		}
		if i < n-1 {
			h.Channel = 1 + r.Intn(65535)
		}
		hops = append(hops, h)
	}
	return keys, hops
}

// stepped is 32 bytes that begin with x.
func stepped(x int) [32]byte {
	var b [32]byte
	for i := range b {
		b[i] = byte(x + 7*i)
	}
	return b
}

// fixedWay is keys and hops of a way of n nodes, always the same.
func fixedWay(n int) (keys [][32]byte, hops []api.Hop) {
	for i := range n {
		keys = append(keys, stepped(i))
		hops = append(hops, api.Hop{
			Channel: 100*i + 1, Amount: 1e12 - i, Expiry: 1<<31 - 1 - i, Secret: stepped(50 + i),
			Total: 1e15 + i, Set: stepped(60 + i), Index: 1<<31 - 1 - i, Share: stepped(70 + i),
		})
	}
	hops[n-1].Channel = 0
	return keys, hops
}
