package sig_test

import (
	"crypto/ed25519"
	"crypto/sha512"
	"encoding/hex"
	"math/big"
	"slices"
	"testing"

	"bandbox/api"
	"bandbox/point"
	"bandbox/sig"
)

func unhex(t testing.TB, s string) []byte {
	t.Helper()
	b, err := hex.DecodeString(s)
	if err != nil {
		t.Fatal(err)
	}
	return b
}

func wordOf(t testing.TB, s string) api.Word {
	t.Helper()
	return api.Word(unhex(t, s))
}

func sigOf(first, second api.Word) api.Sig {
	return api.Sig(slices.Concat(first[:], second[:]))
}

// mixed is n bytes, no two neighbours alike.
func mixed(n int) []byte {
	b := make([]byte, n)
	for i := range b {
		b[i] = byte(i*7 + i>>5*31 + 3)
	}
	return b
}

// mixedWord has bytes of all kinds, other ones for each n.
func mixedWord(n int) api.Word {
	return api.Word(mixed(32*n + 32)[32*n:])
}

func full() api.Word {
	var w api.Word
	for i := range w {
		w[i] = 255
	}
	return w
}

func bigOf(n int64) *big.Int { return big.NewInt(n) }

func powerOf2(n int) *big.Int { return new(big.Int).Lsh(bigOf(1), uint(n)) }

// more is v and n, for any n.
func more(v *big.Int, n int64) *big.Int { return new(big.Int).Add(v, bigOf(n)) }

func prime() *big.Int { return more(powerOf2(255), -19) }

// orders is n times L, and some.
func orders(n, some int64) *big.Int {
	v, _ := new(big.Int).SetString("27742317777372353535851937790883648493", 10)
	v.Add(v, powerOf2(252))
	return more(v.Mul(v, bigOf(n)), some)
}

// number is that in bytes, the lowest first.
func number(b []byte) *big.Int {
	b = slices.Clone(b)
	slices.Reverse(b)
	return new(big.Int).SetBytes(b)
}

// bytesOf is v's 32 bytes, the lowest first.
func bytesOf(v *big.Int) api.Word {
	b := v.FillBytes(make([]byte, 32))
	slices.Reverse(b)
	return api.Word(b)
}

// marked is w with its highest bit set.
func marked(w api.Word) api.Word {
	w[31] |= 0x80
	return w
}

// secretOf is the number that a seed signs with, modulo L.
func secretOf(seed api.Word) *big.Int {
	long := sha512.Sum512(seed[:])
	long[0] &= 248
	long[31] = long[31]&127 | 64
	out := number(long[:32])
	return out.Mod(out, orders(1, 0))
}

// hashOf is what the public key is taken times, modulo L.
func hashOf(first, public api.Word, text []byte) *big.Int {
	long := sha512.Sum512(slices.Concat(first[:], public[:], text))
	out := number(long[:])
	return out.Mod(out, orders(1, 0))
}

// secondOf is once and hash times secret, modulo L.
func secondOf(once, hash, secret *big.Int) api.Word {
	out := new(big.Int).Mul(hash, secret)
	out.Add(out, once)
	return bytesOf(out.Mod(out, orders(1, 0)))
}

// ofBase is the base, n times, and another point.
func ofBase(t testing.TB, n *big.Int, other api.Word) api.Word {
	t.Helper()
	out, e := point.Mul(bytesOf(n), point.Base())
	out, f := point.Add(out, other)
	if e != api.OK || f != api.OK {
		t.Fatalf("the base, %x times, and %x: %d, %d", n, other, e, f)
	}
	return out
}

// smallOnes are the eight points whose eightfold is zero: the n-th is one of order 8, n times.
func smallOnes(t testing.TB) [8]api.Word {
	t.Helper()
	var out [8]api.Word
	for i := range out {
		var e api.Errno
		out[i], e = point.Mul(bytesOf(bigOf(int64(i))), wordOf(t, "26e8958fc2b227b045c3f489f2ef98f0d5dfac05d3c63339b13802886d53fc05"))
		if e != api.OK || slices.Contains(out[:i], out[i]) {
			t.Fatalf("there are less than eight points of small order: %x", out)
		}
	}
	// Their y are 1, 0, -1 and 0.
	if out[0] != (api.Word{1}) || out[4] != bytesOf(more(prime(), -1)) || number(out[2][:31]).Sign() != 0 || number(out[6][:31]).Sign() != 0 {
		t.Fatalf("the points of small order are not: %x", out)
	}
	return out
}

// signed fails where the parts' signature is not just the one that Go's own package makes of the text that they make, or is not found to be one.
func signed(t *testing.T, seed api.Word, parts ...[]byte) (api.Word, api.Sig) {
	t.Helper()
	key := ed25519.NewKeyFromSeed(seed[:])
	text := slices.Concat(parts...)
	public, s := sig.Public(seed), sig.Sign(seed, parts...)
	if public != api.Word(key[32:]) {
		t.Errorf("P10.1: Public of %x: %x", seed, public)
	}
	if s != api.Sig(ed25519.Sign(key, text)) {
		t.Errorf("P10.1: Sign of %d bytes in %d parts: %x", len(text), len(parts), s)
	}
	verified(t, true, public, s, parts...)
	return public, s
}

// verified fails where Verify tells otherwise than wanted.
func verified(t *testing.T, want bool, public api.Word, s api.Sig, parts ...[]byte) {
	t.Helper()
	if sig.Verify(public, s, parts...) != want {
		t.Errorf("P10.1: Verify of %x, %x and %d bytes in %d parts: %v", public, s, len(slices.Concat(parts...)), len(parts), !want)
	}
}
