package point_test

import (
	"math/big"
	"sync"
	"testing"

	"bandbox/api"
	"bandbox/point"
	"bandbox/scalar"
	"bandbox/sha"
)

// add fails where the sum of two points is refused, or hangs on which comes first.
func add(t *testing.T, a, b api.Word) api.Word {
	t.Helper()
	out, e := point.Add(a, b)
	other, f := point.Add(b, a)
	if e != api.OK || f != api.OK || out != other || !point.Good(out) {
		t.Errorf("P9.1: Add of %x and %x: %x, %d; in the other order %x, %d", a, b, out, e, other, f)
	}
	return out
}

func mul(t *testing.T, n *big.Int, a api.Word) api.Word {
	t.Helper()
	out, e := point.Mul(wordOf(n), a)
	if e != api.OK || !point.Good(out) {
		t.Errorf("P9.1: Mul of %x and %x: %x, %d", n, a, out, e)
	}
	return out
}

func neg(t *testing.T, a api.Word) api.Word {
	t.Helper()
	out, e := point.Neg(a)
	if e != api.OK || !point.Good(out) {
		t.Errorf("P9.1: Neg of %x: %x, %d", a, out, e)
	}
	return out
}

func same(t *testing.T, call string, got, want api.Word, of ...any) {
	t.Helper()
	if got != want {
		t.Errorf("P9.1: %s of %x: %x, not %x", call, of, got, want)
	}
}

func TestTheChaptersExamples(t *testing.T) {
	same(t, "Mul", mul(t, bigOf(1), point.Base()), point.Base())
	same(t, "Mul", mul(t, orders(1, 0), point.Base()), point.Zero())
}

func TestBaseAndZero(t *testing.T) {
	base := api.Word(unhex(t, "5866666666666666666666666666666666666666666666666666666666666666"))
	zero := api.Word(unhex(t, "0100000000000000000000000000000000000000000000000000000000000000"))
	same(t, "Base", point.Base(), base)
	same(t, "Base, by its numbers", point.Base(), pointOf(baseSpot(t)))
	same(t, "Zero", point.Zero(), zero)
	if y := over(bigOf(4), bigOf(5)); wordOf(y) != point.Base() || baseSpot(t).x.Bit(0) != 0 {
		t.Errorf("P9.1: the base does not lie at 4/5: %x", y)
	}
}

// RFC 8032's public keys are the base, so many times as each secret says.
func TestPublicKeysAreMultiplesOfTheBase(t *testing.T) {
	for _, c := range []struct{ seed, public string }{
		{"9d61b19deffd5a60ba844af492ec2cc44449c5697b326919703bac031cae7f60", "d75a980182b10ab7d54bfed3c964073a0ee172f3daa62325af021a68f707511a"},
		{"4ccd089b28ff96da9db6c346ec114e0f5b8a319f35aba624da8cf6ed4fb8a6fb", "3d4017c3e843895a92b70aa74d1b7ebc9c982ccf2ec4968cc0cd55f12af4660c"},
		{"c5aa8df43f9f837bedb7442f31dcb7b166d38535076f094b85ce3a2e0b4458f7", "fc51cd8e6218a1a38da47ed00230f0580816ed13ba3303ac5deb911548908025"},
		{"f5e5767cf153319517630f226876b86c8160cc583bc013744c6bf255f5cc0ee5", "278117fc144c72340f67d0f2316e8386ceffbf2b2428c9c51fef7c597f1d426e"},
		{"833fe62409237b9d62ec77587520911e9a759cec1d19755b7da901b96dca3d42", "ec172b93ad5e563bf4932c70e1245034c35467ef2efd4d64ebf819683467e2bf"},
	} {
		long := sha.Long(unhex(t, c.seed))
		n := api.Word(long[:32])
		n[0] &= 248
		n[31] = n[31]&127 | 64
		got, e := point.Mul(n, point.Base())
		if got != api.Word(unhex(t, c.public)) || e != api.OK {
			t.Errorf("P9.1: the public key of %s: %x, %d", c.seed, got, e)
		}
	}
}

// The first half of each of RFC 8032's signatures is one too.
func TestFirstHalvesOfSignatures(t *testing.T) {
	for _, c := range []struct{ seed, text, half string }{
		{"9d61b19deffd5a60ba844af492ec2cc44449c5697b326919703bac031cae7f60", "", "e5564300c360ac729086e2cc806e828a84877f1eb8e5d974d873e06522490155"},
		{"4ccd089b28ff96da9db6c346ec114e0f5b8a319f35aba624da8cf6ed4fb8a6fb", "72", "92a009a9f0d4cab8720e820b5f642540a2b27b5416503f8fb3762223ebdb69da"},
		{"c5aa8df43f9f837bedb7442f31dcb7b166d38535076f094b85ce3a2e0b4458f7", "af82", "6291d657deec24024827e69c3abe01a30ce548a284743a445e3680d7db5ac3ac"},
	} {
		long := sha.Long(unhex(t, c.seed))
		got, e := point.Mul(scalar.Long(sha.Long(long[32:], unhex(t, c.text))), point.Base())
		if got != api.Word(unhex(t, c.half)) || e != api.OK {
			t.Errorf("P9.1: the first half of the signature of %q: %x, %d", c.text, got, e)
		}
	}
}

func TestGoodOfPoints(t *testing.T) {
	base := spots(t)
	for n := int64(4); n < 60; n++ {
		base = append(base, multiple(bigOf(n), baseSpot(t)))
	}
	for _, s := range base {
		for _, side := range []spot{s, otherSide(s)} {
			if w := pointOf(side); !point.Good(w) {
				t.Errorf("P9.1: Good of %x: false", w)
			}
		}
	}
	// The two points with x 0 have one side alone.
	for _, y := range []*big.Int{bigOf(1), more(prime(), -1)} {
		if !point.Good(wordAt(y, 0)) {
			t.Errorf("P9.1: Good of 0, %x: false", y)
		}
		none(t, wordAt(y, 1))
	}
	// Those with y 0 have two.
	for odd := range uint(2) {
		if w := wordAt(bigOf(0), odd); !point.Good(w) {
			t.Errorf("P9.1: Good of %x: false", w)
		}
	}
}

// judged fails where Good of y and the bit is not just what it should be, and tells which.
func judged(t *testing.T, y *big.Int, odd uint) bool {
	t.Helper()
	s, want := spotAt(y, odd)
	w := wordAt(y, odd)
	if point.Good(w) != want {
		t.Errorf("P9.1: Good of %x: %v", w, !want)
	}
	if !want {
		none(t, w)
		return false
	}
	placed(t, w, s)
	return true
}

func TestGoodOfAnyY(t *testing.T) {
	var ys []*big.Int
	for n := range int64(100) {
		ys = append(ys, bigOf(n), more(prime(), -n-1), mixed(int(n)).Rsh(mixed(int(n)), 1))
	}
	for n := range 255 {
		ys = append(ys, powerOf2(n), more(powerOf2(n), -1))
	}
	with := 0
	for _, y := range ys {
		for odd := range uint(2) {
			if judged(t, y, odd) {
				with++
			}
		}
	}
	// Else one of the two ways is hardly gone.
	if all := 2 * len(ys); with < all/3 || with > 2*all/3 {
		t.Errorf("%d of %d are points", with, all)
	}
}

// A y from p on is none, though it would be one if it counted modulo p.
func TestYIsBelowThePrime(t *testing.T) {
	would := 0
	for n := range int64(19) {
		y := more(prime(), n)
		for odd := range uint(2) {
			none(t, wordAt(y, odd))
			if point.Good(wordAt(bigOf(n), odd)) {
				would++
			}
		}
	}
	if would < 10 {
		t.Errorf("P9.1: of the y below 19 there are but %d points", would)
	}
	if !point.Good(wordAt(more(prime(), -1), 0)) {
		t.Error("P9.1: Good of p - 1: false")
	}
	none(t, wordAt(more(prime(), -1), 1))
	none(t, wordAt(more(powerOf2(255), -1), 0))
	none(t, wordAt(more(powerOf2(255), -1), 1))
}

// none fails where bytes that are no point are not refused by each call, in each place.
func none(t *testing.T, w api.Word) {
	t.Helper()
	if point.Good(w) {
		t.Errorf("P9.1: Good of %x: true", w)
	}
	refused := func(call string, e api.Errno, out ...api.Word) {
		t.Helper()
		for _, o := range out {
			if e != api.EFORM || o != (api.Word{}) {
				t.Errorf("P9.1, R2: %s of %x, which is no point: %x, %d", call, w, o, e)
			}
		}
	}
	for _, other := range []api.Word{point.Zero(), point.Base(), w, {2}} {
		out, e := point.Add(w, other)
		refused("Add", e, out)
		out, e = point.Add(other, w)
		refused("Add", e, out)
	}
	for _, n := range []*big.Int{bigOf(0), bigOf(1), bigOf(8), orders(1, 0), orders(8, 0), more(powerOf2(256), -1)} {
		out, e := point.Mul(wordOf(n), w)
		refused("Mul", e, out)
	}
	out, e := point.Neg(w)
	refused("Neg", e, out)
	x, y, e := point.At(w)
	refused("At", e, x, y)
}

func TestWhatIsNoPoint(t *testing.T) {
	for _, y := range []int64{2, 7, 8, 11} {
		none(t, wordAt(bigOf(y), 0))
		none(t, wordAt(bigOf(y), 1))
	}
	var full api.Word
	for i := range full {
		full[i] = 255
	}
	none(t, full)
	// A bit more or less than a point's may be none.
	refused := 0
	for i := range 256 {
		w := point.Base()
		w[i/8] ^= 1 << (i % 8)
		y := wordNumber(w[:])
		if judged(t, y.SetBit(y, 255, 0), uint(w[31]>>7)) {
			continue
		}
		refused++
	}
	if refused < 80 || refused > 176 {
		t.Errorf("of 256 that differ from the base in a bit %d are none", refused)
	}
}

// placed fails where At of a point is not s.
func placed(t *testing.T, w api.Word, s spot) {
	t.Helper()
	x, y, e := point.At(w)
	if e != api.OK || x != wordOf(s.x) || y != wordOf(s.y) {
		t.Errorf("P9.1: At of %x: %x, %x, %d, not %x, %x", w, x, y, e, s.x, s.y)
	}
}

func TestAt(t *testing.T) {
	placed(t, point.Zero(), zeroSpot())
	placed(t, point.Base(), baseSpot(t))
	for _, s := range spots(t) {
		for _, side := range []spot{s, otherSide(s)} {
			w := pointOf(side)
			placed(t, w, side)
			onTheCurve(t, w)
		}
	}
}

func onTheCurve(t *testing.T, w api.Word) {
	t.Helper()
	a, b, e := point.At(w)
	x, y := wordNumber(a[:]), wordNumber(b[:])
	if e != api.OK || x.Cmp(prime()) >= 0 || y.Cmp(prime()) >= 0 || x.Bit(0) != uint(w[31]>>7) {
		t.Errorf("P9.1: At of %x: %x, %x, %d", w, x, y, e)
	}
	xx, yy := times(x, x), times(y, y)
	if modulo(new(big.Int).Sub(yy, xx)).Cmp(modulo(more(times(bend(), times(xx, yy)), 1))) != 0 {
		t.Errorf("P9.1: At of %x does not stand on the curve: %x, %x", w, x, y)
	}
}

// Each with each, since what adds two must hold for one and itself, and for two whose sum is zero, too.
func TestAdd(t *testing.T) {
	all := spots(t)
	for i, a := range all {
		for _, b := range all[i:] {
			same(t, "Add", add(t, pointOf(a), pointOf(b)), pointOf(sum(a, b)), pointOf(a), pointOf(b))
		}
	}
}

func TestAddAtItsEdges(t *testing.T) {
	for _, s := range spots(t) {
		a := pointOf(s)
		same(t, "Add of it and Zero", add(t, a, point.Zero()), a, a)
		same(t, "Add of it and its Neg", add(t, a, neg(t, a)), point.Zero(), a)
		same(t, "Add of it and itself", add(t, a, a), mul(t, bigOf(2), a), a)
		same(t, "Add of its Neg and its double", add(t, neg(t, a), mul(t, bigOf(2), a)), a, a)
	}
}

func TestAddOfThree(t *testing.T) {
	var all []api.Word
	for _, s := range fewSpots(t) {
		all = append(all, pointOf(s))
	}
	for i, a := range all {
		for j, b := range all[i:] {
			for _, c := range all[i+j:] {
				left, right := add(t, add(t, a, b), c), add(t, a, add(t, b, c))
				same(t, "Add of three", left, right, a, b, c)
			}
		}
	}
}

func TestPointsOfSmallOrder(t *testing.T) {
	all := smallSpots(t)
	for i, a := range all {
		same(t, "Mul by 8", mul(t, bigOf(8), pointOf(a)), point.Zero(), pointOf(a))
		for j, b := range all {
			same(t, "Add", add(t, pointOf(a), pointOf(b)), pointOf(all[(i+j)%8]), pointOf(a), pointOf(b))
		}
		for n := range int64(40) {
			same(t, "Mul", mul(t, bigOf(n), pointOf(a)), pointOf(all[int64(i)*n%8]), n, pointOf(a))
		}
	}
}

func TestNeg(t *testing.T) {
	same(t, "Neg", neg(t, point.Zero()), point.Zero(), point.Zero())
	last := wordOf(more(prime(), -1))
	same(t, "Neg", neg(t, last), last, last)
	same(t, "Neg", neg(t, point.Base()), wordAt(baseSpot(t).y, 1), point.Base())
	for _, s := range spots(t) {
		a := pointOf(s)
		other := neg(t, a)
		same(t, "Neg", other, pointOf(otherSide(s)), a)
		placed(t, other, otherSide(s))
		same(t, "Neg of Neg", neg(t, other), a, a)
		same(t, "Neg, by Mul", mul(t, orders(8, -1), a), other, a)
	}
}

// counts are the n at which something begins or ends.
func counts() []*big.Int {
	out := []*big.Int{powerOf2(252), powerOf2(255), more(powerOf2(256), -1), more(powerOf2(256), -2), mixed(3), mixed(4)}
	for n := range int64(4) {
		out = append(out, bigOf(n), orders(1, n-2), orders(8, n-2))
	}
	for _, n := range []int64{7, 8, 9, 15, 16, 17, 31, 32, 33, 255, 256, 257} {
		out = append(out, bigOf(n))
	}
	return append(out, orders(2, 0), orders(4, 0), orders(15, 0), orders(15, 1))
}

func TestMul(t *testing.T) {
	for _, s := range fewSpots(t) {
		a := pointOf(s)
		for _, n := range counts() {
			same(t, "Mul", mul(t, n, a), pointOf(multiple(n, s)), n, a)
		}
	}
}

// n does not count modulo L: what L takes to zero are multiples of the base alone.
func TestMulAtItsEdges(t *testing.T) {
	small := smallSpots(t)
	for _, s := range spots(t) {
		a := pointOf(s)
		same(t, "Mul by 0", mul(t, bigOf(0), a), point.Zero(), a)
		same(t, "Mul by 1", mul(t, bigOf(1), a), a, a)
		same(t, "Mul by 8L", mul(t, orders(8, 0), a), point.Zero(), a)
		same(t, "Mul by 8L + 1", mul(t, orders(8, 1), a), a, a)
	}
	for _, s := range baseSpots(t) {
		same(t, "Mul by L", mul(t, orders(1, 0), pointOf(s)), point.Zero(), pointOf(s))
		same(t, "Mul by L + 1", mul(t, orders(1, 1), pointOf(s)), pointOf(s), pointOf(s))
		same(t, "Mul by L - 1", mul(t, orders(1, -1), pointOf(s)), pointOf(otherSide(s)), pointOf(s))
		for i, o := range small {
			// L is 5 modulo 8.
			w := pointOf(sum(s, o))
			same(t, "Mul by L", mul(t, orders(1, 0), w), pointOf(small[i*5%8]), w)
		}
	}
	for _, n := range counts() {
		same(t, "Mul of Zero", mul(t, n, point.Zero()), point.Zero(), n)
	}
}

func TestMulTakesEachBit(t *testing.T) {
	small, base := smallSpots(t), baseSpot(t)
	for _, s := range []spot{base, small[0], small[4], small[2], small[1], sum(base, small[1]), sum(base, small[4])} {
		a, back, double := pointOf(s), otherSide(s), s
		for i := range 256 {
			same(t, "Mul", mul(t, powerOf2(i), a), pointOf(double), powerOf2(i), a)
			less := more(powerOf2(i), -1)
			same(t, "Mul", mul(t, less, a), pointOf(sum(double, back)), less, a)
			double = sum(double, double)
		}
	}
}

// Each four bits of n, and each byte, may be any.
func TestMulTakesEachByte(t *testing.T) {
	step := baseSpot(t)
	for i := range 32 {
		s := zeroSpot()
		for c := range 256 {
			if c < 20 || c%16 == 0 || c > 240 {
				n := new(big.Int).Lsh(bigOf(int64(c)), uint(8*i))
				same(t, "Mul", mul(t, n, point.Base()), pointOf(s), n, point.Base())
			}
			s = sum(s, step)
		}
		step = s
	}
}

// So many times and so many times is both together; so many times so many times is both multiplied. 8L takes each point to zero.
func TestMulGoesTogether(t *testing.T) {
	all := []*big.Int{bigOf(0), bigOf(1), bigOf(2), bigOf(17), orders(1, -1), orders(1, 0), powerOf2(255), more(powerOf2(256), -1), mixed(5)}
	eight := orders(8, 0)
	for _, s := range fewSpots(t)[1:] {
		a := pointOf(s)
		for _, n := range all {
			one := mul(t, n, a)
			for _, m := range all {
				both := new(big.Int).Add(n, m)
				same(t, "Add of Mul and Mul", add(t, one, mul(t, m, a)), mul(t, both.Mod(both, eight), a), n, m, a)
				both.Mul(n, m)
				same(t, "Mul of Mul", mul(t, m, one), mul(t, both.Mod(both, eight), a), n, m, a)
			}
			same(t, "Mul of Neg", mul(t, n, neg(t, a)), neg(t, one), n, a)
			other := point.Base()
			same(t, "Mul of Add", mul(t, n, add(t, a, other)), add(t, one, mul(t, n, other)), n, a)
		}
	}
}

// answers are those of all calls at a, b and n.
type answers struct {
	good                            bool
	zero, base, sum, neg, mul, x, y api.Word
	ofSum, ofNeg, ofMul, ofAt       api.Errno
}

func answersAt(a, b, n api.Word) answers {
	out := answers{good: point.Good(a), zero: point.Zero(), base: point.Base()}
	out.sum, out.ofSum = point.Add(a, b)
	out.neg, out.ofNeg = point.Neg(a)
	out.mul, out.ofMul = point.Mul(n, a)
	out.x, out.y, out.ofAt = point.At(a)
	return out
}

func TestAnswersHangOnTheArgumentsAlone(t *testing.T) {
	words := []api.Word{{2}, wordAt(bigOf(1), 1), wordOf(prime())}
	for _, s := range spots(t) {
		words = append(words, pointOf(s))
	}
	at := func(i int) answers {
		return answersAt(words[i], words[len(words)-1-i], words[(i*5+1)%len(words)])
	}
	first := make([]answers, len(words))
	for i := range words {
		first[i] = at(i)
	}
	var group sync.WaitGroup
	for range 4 {
		group.Go(func() {
			for i := len(words) - 1; i >= 0; i-- {
				if at(i) != first[i] {
					t.Errorf("R5: another answer the next time, at %x", words[i])
				}
			}
		})
	}
	group.Wait()
}

func TestArgumentsStayAsTheyWere(t *testing.T) {
	for _, s := range append(spots(t), spot{bigOf(1), bigOf(2)}, spot{bigOf(1), bigOf(1)}) {
		a, b, n := pointOf(s), point.Base(), wordOf(mixed(1))
		answersAt(a, b, n)
		if a != pointOf(s) || b != point.Base() || n != wordOf(mixed(1)) {
			t.Errorf("R4: %x, %x and %x now", a, b, n)
		}
	}
	// What is answered is the asker's own.
	base, zero := point.Base(), point.Zero()
	base[0], zero[0] = 0, 0
	if point.Base()[0] != 0x58 || point.Zero()[0] != 1 {
		t.Errorf("R5: Base and Zero are %x and %x now", point.Base(), point.Zero())
	}
}
