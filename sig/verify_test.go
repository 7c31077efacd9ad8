package sig_test

import (
	"crypto/ed25519"
	"math/big"
	"slices"
	"testing"

	"bandbox/api"
	"bandbox/point"
	"bandbox/sig"
)

func TestEveryBitOfTheSignatureAndTheKeyCounts(t *testing.T) {
	t.Parallel()
	for _, n := range []int{0, 20} {
		b := mixed(n)
		public, s := signed(t, mixedWord(20+n), b)
		for i := range 512 {
			turned := s
			turned[i/8] ^= 1 << (i % 8)
			verified(t, false, public, turned, b)
		}
		for i := range 256 {
			turned := public
			turned[i/8] ^= 1 << (i % 8)
			verified(t, false, turned, s, b)
		}
	}
}

func TestEveryBitOfTheTextCounts(t *testing.T) {
	t.Parallel()
	for _, n := range []int{1, 20, 48, 150} {
		b := mixed(n)
		public, s := signed(t, mixedWord(20+n), b)
		for i := range 8 * n {
			b[i/8] ^= 1 << (i % 8)
			verified(t, false, public, s, b[:n/2], b[n/2:])
			b[i/8] ^= 1 << (i % 8)
		}
		verified(t, true, public, s, b)
	}
}

func TestAByteLacksOrIsTooMuch(t *testing.T) {
	t.Parallel()
	for _, n := range []int{0, 1, 2, 47, 64, 111, 129} {
		b := mixed(n)
		public, s := signed(t, mixedWord(n), b)
		for i := range n {
			verified(t, false, public, s, slices.Delete(slices.Clone(b), i, i+1))
			verified(t, false, public, s, b[:i], b[i+1:])
			verified(t, false, public, s, b[i+1:])
		}
		for i := range n + 1 {
			for _, c := range []byte{0, 0x80, 255} {
				verified(t, false, public, s, b[:i], []byte{c}, b[i:])
			}
		}
	}
}

func TestOtherParts(t *testing.T) {
	a, b, c := []byte("first"), mixed(100), []byte("last")
	public, s := signed(t, mixedWord(21), a, b, c)
	for i, parts := range [][][]byte{
		nil, {a}, {b}, {c}, {a, b}, {b, c}, {a, c}, {a, c, b}, {b, a, c}, {c, b, a}, {a, a, b, c}, {a, b, b, c}, {a, b, c, c}, {a, b, c, a},
		{a, b, c, {0}}, {{0}, a, b, c}, {a, {0}, b, c}, {public[:], a, b, c}, {s[:32], public[:], a, b, c}, {s[:], a, b, c},
	} {
		if sig.Verify(public, s, parts...) {
			t.Errorf("P10.1: Verify of other parts, number %d: true", i)
		}
	}
	verified(t, true, public, s, nil, a, b, nil, c)
}

func TestOtherKeys(t *testing.T) {
	seed, b := mixedWord(22), mixed(40)
	public, s := signed(t, seed, b)
	less, e := point.Neg(public)
	if e != api.OK {
		t.Fatalf("no other side: %d", e)
	}
	keys := []api.Word{{}, {1}, full(), seed, less, point.Base(), api.Word(s[:32]), api.Word(s[32:]), bytesOf(secretOf(seed)), marked(public)}
	for i := range 22 {
		keys = append(keys, sig.Public(mixedWord(i)))
	}
	for _, key := range keys {
		if key != public {
			verified(t, false, key, s, b)
		}
	}
}

func TestAllBytesAlike(t *testing.T) {
	for _, b := range [][]byte{nil, {0}, mixed(30)} {
		public, s := signed(t, mixedWord(23), b)
		first, second := api.Word(s[:32]), api.Word(s[32:])
		for _, bad := range []api.Sig{{}, sigOf(full(), full()), sigOf(api.Word{}, full()), sigOf(full(), api.Word{}), sigOf(api.Word{}, second), sigOf(full(), second), sigOf(first, api.Word{}), sigOf(first, full())} {
			verified(t, false, public, bad, b)
			verified(t, false, full(), bad, b)
		}
		verified(t, false, full(), s, b)
		verified(t, false, api.Word{}, s, b)
		verified(t, false, api.Word{}, sigOf(full(), full()), b)
		verified(t, false, api.Word{}, sigOf(api.Word{}, full()), b)
	}
}

// textWith is one for which the hash of all three, and some, is a multiple of a number if yes is true, and none if it is false.
func textWith(t *testing.T, first, public api.Word, some, times, by int64, yes bool) []byte {
	t.Helper()
	for n := range 1000 {
		b := []byte{byte(n), byte(n >> 8)}
		v := hashOf(first, public, b)
		v.Mul(v, bigOf(times))
		if v.Mod(more(v, some), bigOf(by)).Sign() == 0 == yes {
			return b
		}
	}
	t.Fatalf("no text for %x and %x", first, public)
	return nil
}

// All bytes 0 are a point of order 4, and no times the base is zero: so it is a signature where the hash is 3 modulo 4.
func TestNoughtsMaySign(t *testing.T) {
	verified(t, true, api.Word{}, api.Sig{}, textWith(t, api.Word{}, api.Word{}, 1, 1, 4, true))
	verified(t, false, api.Word{}, api.Sig{}, textWith(t, api.Word{}, api.Word{}, 1, 1, 4, false))
}

// asReckoned fails where Verify of a key and a signature is not what their parts of small order say: the secret's key and the i-th one, once times the base and the j-th one.
func asReckoned(t *testing.T, secret, once *big.Int, i, j int) (both [2]bool) {
	t.Helper()
	small := smallOnes(t)
	public, first := ofBase(t, secret, small[i]), ofBase(t, once, small[j])
	for n := range 24 {
		b := mixed(n)
		hash := hashOf(first, public, b)
		left := new(big.Int).Mod(more(new(big.Int).Mul(hash, bigOf(int64(i))), int64(j)), bigOf(8))
		falls := left.Sign() == 0
		if falls && both[1] || !falls && both[0] {
			continue
		}
		s := sigOf(first, secondOf(once, hash, secret))
		verified(t, falls, public, s, b)
		// Go's own package leaves no factor of 8, either.
		if ed25519.Verify(public[:], b, s[:]) != falls {
			t.Fatalf("reckoned amiss: %x, %x, %d bytes", public, s, n)
		}
		if falls {
			both[1] = true
		} else {
			both[0] = true
		}
	}
	return both
}

func TestPointsOfSmallOrder(t *testing.T) {
	t.Parallel()
	secret, once := secretOf(mixedWord(24)), secretOf(mixedWord(25))
	for _, c := range [][2]*big.Int{{secret, once}, {secret, bigOf(0)}, {bigOf(0), once}, {bigOf(0), bigOf(0)}} {
		falls, stays := 0, 0
		for i := range 8 {
			for j := range 8 {
				both := asReckoned(t, c[0], c[1], i, j)
				if both[1] {
					falls++
				}
				if both[0] {
					stays++
				}
				// Without any, nothing is left; and no multiple of a key's part is the first half's, if that is of a greater order.
				if want := i == 0 && j == 0; both[0] == want {
					t.Errorf("%d and %d: left is nothing at each text: %v", i, j, !want)
				}
				if i%2 == 0 && j%2 == 1 && both[1] {
					t.Errorf("%d and %d: nothing is left", i, j)
				}
			}
		}
		if falls < 30 || stays != 63 {
			t.Errorf("of 64 there are %d with which it may be true, %d with which it may be false", falls, stays)
		}
	}
}

// A signature is one for the key alone, not for the key and something of small order, though its eightfold is the same.
func TestSmallOrderIsNoOnesOwn(t *testing.T) {
	seed := mixedWord(26)
	secret, small := secretOf(seed), smallOnes(t)
	for n := range 30 {
		b := mixed(n)
		public, s := signed(t, seed, b)
		for _, o := range small[1:] {
			verified(t, false, ofBase(t, secret, o), s, b)
			first, e := point.Add(api.Word(s[:32]), o)
			if e != api.OK {
				t.Fatalf("no sum: %d", e)
			}
			verified(t, false, public, sigOf(first, api.Word(s[32:])), b)
		}
	}
}

// other is bytes that are no point, but would be the which-th one of small order if they counted modulo p, or if the bit at x 0 didn't count.
type other struct {
	bytes api.Word
	which int64
}

func others(t *testing.T) []other {
	t.Helper()
	even, odd := int64(2), int64(6)
	if smallOnes(t)[2] != (api.Word{}) {
		even, odd = odd, even
	}
	out := []other{
		{bytesOf(prime()), even}, {marked(bytesOf(prime())), odd},
		{bytesOf(more(prime(), 1)), 0}, {marked(bytesOf(more(prime(), 1))), 0},
		{marked(api.Word{1}), 0}, {marked(bytesOf(more(prime(), -1))), 4},
	}
	for _, o := range out {
		if point.Good(o.bytes) {
			t.Fatalf("%x is a point", o.bytes)
		}
	}
	return out
}

func TestOtherBytesOfAKey(t *testing.T) {
	once := secretOf(mixedWord(27))
	for _, o := range others(t) {
		for j, part := range smallOnes(t) {
			first := ofBase(t, once, part)
			if o.which == 0 && j != 0 || o.which == 4 && j%4 != 0 || j%2 == 1 {
				continue
			}
			// It would be true, were it a point.
			b := textWith(t, first, o.bytes, int64(j), o.which, 8, true)
			verified(t, false, o.bytes, sigOf(first, bytesOf(once)), b)
			public := smallOnes(t)[o.which]
			b = textWith(t, first, public, int64(j), o.which, 8, true)
			verified(t, true, public, sigOf(first, bytesOf(once)), b)
		}
	}
}

func TestOtherBytesOfAFirstHalf(t *testing.T) {
	secret := secretOf(mixedWord(28))
	for _, o := range others(t) {
		for i, part := range smallOnes(t) {
			if o.which != 0 && i%2 == 0 && int64(i) != o.which {
				continue
			}
			public := ofBase(t, secret, part)
			for _, first := range []api.Word{o.bytes, smallOnes(t)[o.which]} {
				b := textWith(t, first, public, o.which, int64(i), 8, true)
				second := secondOf(bigOf(0), hashOf(first, public, b), secret)
				verified(t, first != o.bytes, public, sigOf(first, second), b)
			}
		}
	}
}

// noPoints are bytes without an x, or with a y that is none.
func noPoints(t *testing.T) []api.Word {
	t.Helper()
	out := []api.Word{full(), bytesOf(more(powerOf2(255), -1))}
	for _, y := range []int64{2, 7, 8, 11} {
		out = append(out, bytesOf(bigOf(y)), marked(bytesOf(bigOf(y))))
	}
	for n := range int64(19) {
		out = append(out, bytesOf(more(prime(), n)), marked(bytesOf(more(prime(), n))))
	}
	return append(out, marked(api.Word{1}), marked(bytesOf(more(prime(), -1))))
}

// Were such a key taken for zero, or for bytes 0, which are a point of small order, one of these would be true.
func TestNoPointIsAKey(t *testing.T) {
	once := secretOf(mixedWord(29))
	for _, w := range noPoints(t) {
		if point.Good(w) {
			t.Fatalf("%x is a point", w)
		}
		for _, part := range smallOnes(t) {
			verified(t, false, w, sigOf(ofBase(t, once, part), bytesOf(once)), []byte("text"))
			verified(t, false, w, sigOf(part, api.Word{}), []byte("text"))
		}
		verified(t, false, w, sigOf(w, api.Word{}), nil)
	}
}

func TestNoPointIsAFirstHalf(t *testing.T) {
	secret := secretOf(mixedWord(30))
	for _, w := range noPoints(t) {
		for _, part := range smallOnes(t) {
			public := ofBase(t, secret, part)
			for n := range 4 {
				second := secondOf(bigOf(0), hashOf(w, public, mixed(n)), secret)
				verified(t, false, public, sigOf(w, second), mixed(n))
				verified(t, false, part, sigOf(w, api.Word{}), mixed(n))
			}
		}
	}
}

// With more L on it a second half is right modulo L, but it is none.
func TestASecondHalfIsBelowL(t *testing.T) {
	for i := range 20 {
		seed, b := mixedWord(i), mixed(i*8)
		public, s := signed(t, seed, b)
		v := number(s[32:])
		if v.Cmp(orders(1, 0)) >= 0 {
			t.Errorf("P10.1: the second half of Sign is %x", v)
		}
		fit := 0
		for n := int64(1); ; n++ {
			past := new(big.Int).Add(v, orders(n, 0))
			if past.BitLen() > 256 {
				break
			}
			fit++
			verified(t, false, public, sigOf(api.Word(s[:32]), bytesOf(past)), b)
		}
		if fit < 14 {
			t.Errorf("only %d L fit in", fit)
		}
	}
}

// Zero is a point, and so a key: with it any number times the base is the first half, whatever the text.
func TestSecondHalvesAtTheirEdges(t *testing.T) {
	zero := point.Zero()
	half := new(big.Int).Rsh(orders(1, 0), 1)
	for _, v := range []*big.Int{bigOf(0), bigOf(1), bigOf(2), half, more(half, 1), more(powerOf2(252), -1), powerOf2(252), more(powerOf2(252), 1), orders(1, -2), orders(1, -1)} {
		first := ofBase(t, v, zero)
		for _, b := range [][]byte{nil, []byte("any"), mixed(200)} {
			verified(t, true, zero, sigOf(first, bytesOf(v)), b)
		}
		for n := int64(1); ; n++ {
			past := new(big.Int).Add(v, orders(n, 0))
			if past.BitLen() > 256 {
				break
			}
			verified(t, false, zero, sigOf(first, bytesOf(past)), nil)
		}
	}
	for _, v := range []*big.Int{orders(1, 0), orders(1, 1), powerOf2(253), powerOf2(254), powerOf2(255), orders(15, -1), orders(15, 15), more(powerOf2(256), -1)} {
		verified(t, false, zero, sigOf(ofBase(t, v, zero), bytesOf(v)), nil)
	}
	// L's own bytes, each one more or less.
	for i := range 32 {
		for _, some := range []byte{255, 1} {
			w := bytesOf(orders(1, 0))
			w[i] += some
			v := number(w[:])
			verified(t, v.Cmp(orders(1, 0)) < 0, zero, sigOf(ofBase(t, v, zero), w), nil)
		}
	}
}

func TestAnotherSecondHalf(t *testing.T) {
	seed, b := mixedWord(31), mixed(70)
	public, s := signed(t, seed, b)
	v, last := number(s[32:]), orders(1, 0)
	less := new(big.Int).Sub(last, v)
	for _, other := range []*big.Int{bigOf(0), bigOf(1), bigOf(8), more(v, 1), more(v, -1), more(v, 8), less, orders(1, -1), powerOf2(252)} {
		verified(t, false, public, sigOf(api.Word(s[:32]), bytesOf(other)), b)
	}
	for i := range 252 {
		other := new(big.Int).Add(v, powerOf2(i))
		verified(t, false, public, sigOf(api.Word(s[:32]), bytesOf(other.Mod(other, last))), b)
	}
}

// Each of the two that a signature is made with counts in the hash: else it could be taken for another key, or another first half be put to it.
func TestWhatStandsAheadOfTheText(t *testing.T) {
	secret, once := secretOf(mixedWord(32)), secretOf(mixedWord(33))
	zero, b := point.Zero(), mixed(50)
	public, first := ofBase(t, secret, zero), ofBase(t, once, zero)
	for _, c := range []struct {
		want          bool
		first, public api.Word
	}{{true, first, public}, {false, public, first}, {false, api.Word{}, public}, {false, first, api.Word{}}, {false, first, first}, {false, public, public}} {
		verified(t, c.want, public, sigOf(first, secondOf(once, hashOf(c.first, c.public, b), secret)), b)
	}
	// Any once will do: Verify can't tell how it was found.
	for n := range int64(20) {
		first := ofBase(t, bigOf(n), zero)
		verified(t, true, public, sigOf(first, secondOf(bigOf(n), hashOf(first, public, b), secret)), b)
	}
}
