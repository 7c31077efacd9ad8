package chain_test

import (
	"bytes"
	"crypto/ed25519"
	"crypto/sha256"
	"encoding/binary"
	"math"
	"testing"

	"bandbox/api"
	"bandbox/chain"
	"bandbox/point"
	"bandbox/scalar"
	"bandbox/sha"
)

const most = int64(1) << 40

// seed is the n-th one's seed.
func seed(n int) api.Word { return sha256.Sum256([]byte{'s', 'e', 'e', 'd', byte(n)}) }

// pair is the n-th one's key, reckoned in another way.
func pair(n int) ed25519.PrivateKey {
	s := seed(n)
	return ed25519.NewKeyFromSeed(s[:])
}

// public is the n-th one's public key.
func public(n int) api.Word { return api.Word(pair(n).Public().(ed25519.PublicKey)) }

// noPoint are bytes that are no point.
func noPoint(t *testing.T) api.Word {
	t.Helper()
	for c := range 256 {
		if w := (api.Word{byte(c)}); !point.Good(w) {
			return w
		}
	}
	t.Fatal("the test finds no bytes that are no point")
	return api.Word{}
}

// text are, reckoned in another way, the bytes that tell a record without its Sig; also of one that may not be.
func text(r chain.Record) []byte {
	var b []byte
	for _, v := range []int64{int64(r.Dev), r.Seq} {
		b = binary.AppendUvarint(b, uint64(max(v, 0)))
	}
	b = append(b, r.Prev[:]...)
	b = binary.AppendUvarint(b, uint64(len(r.Body)))
	return append(b, r.Body...)
}

// told are all bytes that tell a record, its Sig too.
func told(r chain.Record) []byte { return append(text(r), r.Sig[:]...) }

// sum is the sum of a record.
func sum(r chain.Record) api.Word {
	if !mayBe(r) {
		return sha256.Sum256(nil)
	}
	return sha256.Sum256(told(r))
}

// mayBe tells in another way whether a record may be.
func mayBe(r chain.Record) bool {
	devs := []int{0, 1, 2, 3, 4, 5, 6, 7}
	for _, dev := range devs {
		if r.Dev == dev {
			first := r.Seq == 1 && r.Prev == api.Word{}
			return (first || r.Seq >= 2 && r.Seq < most+1) && len(r.Body) < 16385
		}
	}
	return false
}

// parsed reads a record in another way: it is none, if its own bytes are not just those, or it may not be.
func parsed(b []byte) (chain.Record, bool) {
	rest := b
	take := func(n uint64) []byte {
		n = min(n, uint64(len(rest)))
		out := rest[:n]
		rest = rest[n:]
		return out
	}
	num := func() uint64 {
		v, n := binary.Uvarint(rest)
		take(uint64(max(n, 0)))
		return v
	}
	var r chain.Record
	r.Dev, r.Seq = int(num()), int64(num())
	copy(r.Prev[:], take(32))
	r.Body = bytes.Clone(take(num()))
	copy(r.Sig[:], take(64))
	if !mayBe(r) || !bytes.Equal(told(r), b) {
		return chain.Record{}, false
	}
	return r, true
}

// alike tells in another way whether two records are the same.
func alike(a, b chain.Record) bool {
	return a.Dev == b.Dev && a.Seq == b.Seq && a.Prev == b.Prev && string(a.Body) == string(b.Body) && a.Sig == b.Sig
}

// with is a record that is changed, with a Body of its own.
func with(r chain.Record, change func(r *chain.Record)) chain.Record {
	r.Body = bytes.Clone(r.Body)
	change(&r)
	return r
}

// plain is a record without any Sig.
func plain(dev int, seq int64, prev api.Word, body string) chain.Record {
	return chain.Record{Dev: dev, Seq: seq, Prev: prev, Body: []byte(body)}
}

// signed is a record with the n-th one's Sig, reckoned in another way; also of one that may not be.
func signed(n int, r chain.Record) chain.Record {
	r.Sig = api.Sig(ed25519.Sign(pair(n), append([]byte("record"), text(r)...)))
	return r
}

// behind is a record that comes behind another one, of the n-th one.
func behind(n int, r chain.Record, body string) chain.Record {
	return signed(n, plain(r.Dev, r.Seq+1, sum(r), body))
}

// otherwise is a record with another Sig by the n-th one, that only who has the seed can make: with another number used once.
func otherwise(t *testing.T, n int, r chain.Record) chain.Record {
	t.Helper()
	s, key := seed(n), public(n)
	long := sha.Long(s[:])
	secret := api.Word(long[:32])
	secret[0] &^= 7
	secret[31] = secret[31]&0x7f | 0x40
	once := api.Word{1, 2, 3}
	copy(once[3:], r.Sig[:9]) // so that it is another one each time
	first, e := point.Mul(once, point.Base())
	if e != api.OK {
		t.Fatalf("the test finds no other Sig: %d", e)
	}
	hash := scalar.Long(sha.Long(first[:], key[:], []byte("record"), text(r)))
	second := scalar.Add(once, scalar.Mul(hash, secret))
	was := r.Sig
	r.Sig = api.Sig(append(first[:], second[:]...))
	if r.Sig == was || !ed25519.Verify(key[:], append([]byte("record"), text(r)...), r.Sig[:]) {
		t.Fatal("the test's other Sig is none")
	}
	return r
}

// one is a record that may be, signed by the first one: others are made of it.
func one() chain.Record { return signed(1, plain(5, 300, api.Word{7, 31: 9}, "body")) }

// allBytes is every byte once.
func allBytes() string {
	b := make([]byte, 256)
	for i := range b {
		b[i] = byte(i)
	}
	return string(b)
}

// filled are n bytes, not all alike.
func filled(n int) []byte {
	b := make([]byte, n)
	for i := range b {
		b[i] = byte(i*i>>3 + i)
	}
	return b
}

// some are records that may be, at the edges of all that they have; not all are signed.
func some() []chain.Record {
	var out []chain.Record
	for dev := range 8 {
		for _, seq := range []int64{1, 2, 127, 128, 300, most - 1, most} {
			r := plain(dev, seq, api.Word{}, "x")
			out = append(out, r)
			if seq > 1 {
				out = append(out, with(r, func(r *chain.Record) { r.Prev = sha256.Sum256([]byte{byte(dev)}) }))
			}
		}
	}
	for _, n := range []int{0, 1, 2, 127, 128, 129, 255, 256, 16383, 16384} {
		out = append(out, with(one(), func(r *chain.Record) { r.Body = filled(n) }))
		out = append(out, signed(2, with(plain(3, 1, api.Word{}, ""), func(r *chain.Record) { r.Body = filled(n) })))
	}
	return append(out, one(),
		with(one(), func(r *chain.Record) { r.Body = nil }),
		with(one(), func(r *chain.Record) { r.Body = []byte(allBytes()) }),
		with(one(), func(r *chain.Record) { r.Sig = api.Sig{} }),
		with(one(), func(r *chain.Record) { r.Sig = api.Sig(bytes.Repeat([]byte{0xff}, 64)) }),
		with(one(), func(r *chain.Record) { r.Prev = api.Word(bytes.Repeat([]byte{0xff}, 32)) }),
	)
}

// none are records that may not be, each signed by the first one.
func none() []chain.Record {
	first := plain(5, 1, api.Word{}, "body")
	out := []chain.Record{{}, {Dev: 1}, {Dev: math.MinInt, Seq: math.MinInt64}, {Dev: math.MaxInt, Seq: math.MaxInt64}}
	for _, r := range []chain.Record{one(), first} {
		for _, dev := range []int{-1, 8, 9, 256, 1 << 32, math.MinInt, math.MaxInt} {
			out = append(out, with(r, func(r *chain.Record) { r.Dev = dev }))
		}
		for _, seq := range []int64{0, -1, most + 1, most + 2, 2 * most, math.MinInt64, math.MinInt64 + 1, math.MaxInt64} {
			out = append(out, with(r, func(r *chain.Record) { r.Seq = seq }))
		}
		for _, n := range []int{16385, 16386, 20000, 65536, 1 << 20} {
			out = append(out, with(r, func(r *chain.Record) { r.Body = filled(n) }))
		}
	}
	for i := range 32 {
		out = append(out, with(first, func(r *chain.Record) { r.Prev[i] = 1 << (i % 8) }))
	}
	for i := range out {
		out[i] = signed(1, out[i])
	}
	return out
}

// roll is a row of numbers that is the same each time.
type roll uint64

func (d *roll) next(n int) int {
	*d = *d*6364136223846793005 + 1442695040888963407
	return int(uint64(*d) >> 33 % uint64(n))
}
