package head_test

import (
	"bytes"
	"crypto/ed25519"
	"crypto/sha256"
	"encoding/binary"
	"math"
	"testing"

	"bandbox/api"
	"bandbox/head"
	"bandbox/point"
	"bandbox/scalar"
	"bandbox/sha"
	"bandbox/vec"
)

const most = int64(1) << 40

// seed is the n-th one's seed.
func seed(n int) api.Word { return sha256.Sum256([]byte{'s', 'e', 'e', 'd', byte(n)}) }

// pair is the n-th one's key, reckoned in another way.
func pair(n int) ed25519.PrivateKey {
	s := seed(n)
	return ed25519.NewKeyFromSeed(s[:])
}

// public is the n-th one's public key.
func public(n int) api.Word { return api.Word(pair(n).Public().(ed25519.PublicKey)) }

// noPoint are bytes that are no point.
func noPoint(t *testing.T) api.Word {
	t.Helper()
	for c := range 256 {
		if w := (api.Word{byte(c)}); !point.Good(w) {
			return w
		}
	}
	t.Fatal("the test finds no bytes that are no point")
	return api.Word{}
}

// text are, reckoned in another way, the bytes that tell a head without its Sig; also of one that may not be.
func text(h head.Head) []byte {
	b := binary.AppendUvarint(nil, uint64(max(h.Dev, 0)))
	for _, n := range h.Vec {
		b = binary.AppendUvarint(b, uint64(max(n, 0)))
	}
	for _, tip := range h.Tips {
		b = append(b, tip[:]...)
	}
	return b
}

// told are all bytes that tell a head, its Sig too.
func told(h head.Head) []byte { return append(text(h), h.Sig[:]...) }

// mayBe tells in another way whether a head may be.
func mayBe(h head.Head) bool {
	devs := map[int]int{0: 1, 1: 1, 2: 1, 3: 1, 4: 1, 5: 1, 6: 1, 7: 1}
	wrong := 1 - devs[h.Dev]
	for i := 7; i >= 0; i-- {
		n, noughts := h.Vec[i], bytes.Count(h.Tips[i][:], []byte{0})
		if n <= -1 || n >= most+1 || n == 0 && noughts < 32 {
			wrong++
		}
	}
	return wrong == 0
}

// parsed reads a head in another way: it is none, if its own bytes are not just those, or it may not be.
func parsed(b []byte) (head.Head, bool) {
	rest := b
	take := func(n int) []byte {
		n = min(max(n, 0), len(rest))
		out := rest[:n]
		rest = rest[n:]
		return out
	}
	num := func() uint64 {
		v, n := binary.Uvarint(rest)
		take(n)
		return v
	}
	var h head.Head
	h.Dev = int(num())
	for i := range h.Vec {
		h.Vec[i] = int64(num())
	}
	for i := range h.Tips {
		copy(h.Tips[i][:], take(32))
	}
	copy(h.Sig[:], take(64))
	if !mayBe(h) || !bytes.Equal(told(h), b) {
		return head.Head{}, false
	}
	return h, true
}

// with is a head that is changed.
func with(h head.Head, change func(h *head.Head)) head.Head {
	change(&h)
	return h
}

// plain is a head of a device with those numbers, with a tip where one is above 0, without any Sig.
func plain(dev int, v vec.Vec) head.Head {
	h := head.Head{Dev: dev, Vec: v}
	for i, n := range v {
		if n > 0 {
			h.Tips[i] = sha256.Sum256([]byte{'t', 'i', 'p', byte(i), byte(n)})
		}
	}
	return h
}

// signed is a head with the n-th one's Sig, reckoned in another way; also of one that may not be.
func signed(n int, h head.Head) head.Head {
	h.Sig = api.Sig(ed25519.Sign(pair(n), append([]byte("head"), text(h)...)))
	return h
}

// otherwise is a head with another Sig by the n-th one, that only who has the seed can make: with another number used once.
func otherwise(t *testing.T, n int, h head.Head) head.Head {
	t.Helper()
	s, key := seed(n), public(n)
	long := sha.Long(s[:])
	secret := api.Word(long[:32])
	secret[0] &^= 7
	secret[31] = secret[31]&0x7f | 0x40
	once := api.Word{1, 2, 3}
	first, e := point.Mul(once, point.Base())
	if e != api.OK {
		t.Fatalf("the test finds no other Sig: %d", e)
	}
	hash := scalar.Long(sha.Long(first[:], key[:], []byte("head"), text(h)))
	second := scalar.Add(once, scalar.Mul(hash, secret))
	was := h.Sig
	h.Sig = api.Sig(append(first[:], second[:]...))
	if h.Sig == was || !ed25519.Verify(key[:], append([]byte("head"), text(h)...), h.Sig[:]) {
		t.Fatal("the test's other Sig is none")
	}
	return h
}

// one is a head that may be, signed by the first one: others are made of it. Of the devices 1 and 7 it has none.
func one() head.Head { return signed(1, plain(5, vec.Vec{3, 0, 300, 1, most, 2, 127, 0})) }

// edges are numbers at and past what may be.
func edges() []int64 {
	return []int64{-1, 0, 1, 2, 127, 128, 1 << 31, 1 << 32, most - 1, most, most + 1, most + 2, 2 * most, math.MaxInt64, math.MinInt64, math.MinInt64 + 1}
}

// devs are numbers of devices, and others that are none.
func devs() []int {
	return []int{-1, 0, 1, 2, 3, 4, 5, 6, 7, 8, 9, 255, 256, 1 << 32, math.MaxInt, math.MinInt, math.MinInt + 1}
}

// all are heads at the edges of all that they have, those that may be and those that may not.
func all() []head.Head {
	full := api.Word(bytes.Repeat([]byte{0xff}, 32))
	heads := []head.Head{{}, {Dev: 7}, one(), plain(0, vec.Vec{1, 1, 1, 1, 1, 1, 1, 1}), plain(7, vec.Vec{most, most, most, most, most, most, most, most})}
	for _, dev := range devs() {
		heads = append(heads, head.Head{Dev: dev}, with(one(), func(h *head.Head) { h.Dev = dev }))
	}
	for i := range 8 {
		for _, n := range edges() {
			for _, tip := range []api.Word{{}, {1}, {31: 1}, full} {
				heads = append(heads, with(one(), func(h *head.Head) { h.Vec[i], h.Tips[i] = n, tip }))
				x := head.Head{Dev: i}
				x.Vec[i], x.Tips[i] = n, tip
				heads = append(heads, x)
			}
		}
	}
	heads = append(heads, with(one(), func(h *head.Head) { h.Sig = api.Sig{} }), with(one(), func(h *head.Head) { h.Sig = api.Sig(bytes.Repeat([]byte{0xff}, 64)) }))
	for i, h := range heads {
		if i%3 > 0 {
			heads[i] = signed(1, h)
		}
	}
	return heads
}

// roll is a row of numbers that is the same each time.
type roll uint64

func (d *roll) next(n int) int {
	*d = *d*6364136223846793005 + 1442695040888963407
	return int(uint64(*d) >> 33 % uint64(n))
}
