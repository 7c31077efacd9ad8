package field_test

import (
	"math"
	"math/big"
	"sync"
	"testing"

	"bandbox/api"
	"bandbox/field"
)

func bigOf(n int64) *big.Int { return big.NewInt(n) }

func powerOf2(n int) *big.Int { return new(big.Int).Lsh(bigOf(1), uint(n)) }

func prime() *big.Int { return more(powerOf2(255), -19) }

// more is v and n, for any n.
func more(v *big.Int, n int64) *big.Int { return new(big.Int).Add(v, bigOf(n)) }

func decimal(t *testing.T, s string) *big.Int {
	t.Helper()
	v, ok := new(big.Int).SetString(s, 10)
	if !ok {
		t.Fatalf("%s is no number", s)
	}
	return v
}

// wordOf is v's 32 bytes, the lowest first.
func wordOf(v *big.Int) api.Word {
	var b api.Word
	v.FillBytes(b[:])
	for i := range 16 {
		b[i], b[31-i] = b[31-i], b[i]
	}
	return b
}

func numberOf(w api.Word) *big.Int {
	for i := range 16 {
		w[i], w[31-i] = w[31-i], w[i]
	}
	return new(big.Int).SetBytes(w[:])
}

// below is the word of v modulo the prime, for v below 0, too.
func below(v *big.Int) api.Word {
	return wordOf(new(big.Int).Mod(v, prime()))
}

// edges are the numbers at which something begins or ends.
func edges() []*big.Int {
	p := prime()
	twice := new(big.Int).Add(p, p)
	var out []*big.Int
	for _, n := range []int64{0, 1, 2, 18, 19, 20, 37, 38} {
		out = append(out, bigOf(n))
	}
	for n := int64(-2); n <= 1; n++ {
		out = append(out, more(p, n))
	}
	for n := int64(-1); n <= 1; n++ {
		out = append(out, more(twice, n))
	}
	return append(out, more(powerOf2(255), -1), powerOf2(255), more(powerOf2(256), -1))
}

// carrying are numbers whose sums and products carry through all bytes, or through those of some.
func carrying() []*big.Int {
	p := prime()
	half := new(big.Int).Rsh(p, 1)
	out := []*big.Int{half, more(half, 1), more(half, 2)}
	for _, n := range []int64{-40, -39, -38, -37, -20, -19, -18, -17, -3, 2, 3, 17, 18, 19, 20} {
		out = append(out, more(p, n), more(powerOf2(255), n))
	}
	for _, n := range []int64{-76, -40, -39, -38, -37, -36, -35, -20, -19, -18, -3, -2} {
		out = append(out, more(powerOf2(256), n))
	}
	for _, fill := range []byte{0x55, 0x7f, 0x80, 0xaa, 0xfe} {
		var w api.Word
		for i := range w {
			w[i] = fill
		}
		out = append(out, numberOf(w))
	}
	for cut := 64; cut < 256; cut += 64 {
		high := new(big.Int).Sub(powerOf2(256), powerOf2(cut))
		out = append(out, high, more(high, 1), more(high, 37), more(high, 38), new(big.Int).Sub(p, powerOf2(cut)))
	}
	return append(out, mixed(1), mixed(2), mixed(3), mixed(4), mixed(5))
}

// mixed is a number with bytes of all kinds, another for each n.
func mixed(n int) *big.Int {
	var w api.Word
	for i := range w {
		w[i] = byte(i*i*7 + i*83*n + n*57 + i>>2*n*29)
	}
	return numberOf(w)
}

// powers are all powers of 2 with the numbers one below them.
func powers() []*big.Int {
	var out []*big.Int
	for n := range 256 {
		out = append(out, powerOf2(n), more(powerOf2(n), -1))
	}
	return out
}

func numbers() []*big.Int {
	return append(append(edges(), carrying()...), powers()...)
}

// same fails where a call's answer isn't just the one that is wanted.
func same(t *testing.T, call string, got, want api.Word, of ...*big.Int) {
	t.Helper()
	if got != want {
		t.Errorf("P7.1: %s of %x: %x, not %x", call, of, numberOf(got), numberOf(want))
	}
}

func TestTheChaptersExamples(t *testing.T) {
	two := wordOf(bigOf(2))
	same(t, "2 and its Inv's Mul", field.Mul(two, field.Inv(two)), wordOf(bigOf(1)))
	same(t, "Of", field.Of(-1), wordOf(more(prime(), -1)), bigOf(-1))
}

func TestTheLowestByteStandsFirst(t *testing.T) {
	a, b := api.Word{0: 255, 31: 1}, api.Word{0: 1, 31: 2}
	if got, want := field.Add(a, b), (api.Word{1: 1, 31: 3}); got != want {
		t.Errorf("P7.1: Add: %x", got)
	}
	if got, want := field.Of(0x0102030405060708), (api.Word{8, 7, 6, 5, 4, 3, 2, 1}); got != want {
		t.Errorf("P7.1: Of: %x", got)
	}
}

// RFC 8032 names the curve's numbers in base ten: they go together by each of the calls.
func TestTheNumbersOfACurve(t *testing.T) {
	x := wordOf(decimal(t, "15112221349535400772501151409588531511454012693041857206046113283949847762202"))
	y := wordOf(decimal(t, "46316835694926478169428394003475163141307993866256225615783033603165251855960"))
	d := wordOf(decimal(t, "37095705934669439343138083508754565189542113879843219016388785533085940283555"))
	turn := wordOf(decimal(t, "19681161376707505956807079304988542015446066515923890162744021073123829784752"))
	one := field.Of(1)

	same(t, "4 and 5's Inv's Mul", field.Mul(field.Of(4), field.Inv(field.Of(5))), y)
	same(t, "-121665 and 121666's Inv's Mul", field.Mul(field.Of(-121665), field.Inv(field.Of(121666))), d)
	square := field.Mul(y, y)
	square = field.Mul(field.Sub(square, one), field.Inv(field.Add(field.Mul(d, square), one)))
	for _, c := range []struct{ square, root api.Word }{{square, x}, {field.Of(-1), turn}} {
		got, ok := field.Root(c.square)
		if got != c.root || !ok {
			t.Errorf("P7.1: Root of %x: %x, %v", c.square, got, ok)
		}
	}
	quarter := new(big.Int).Rsh(prime(), 2)
	same(t, "2's Power", field.Power(field.Of(2), wordOf(quarter)), turn, quarter)
}

func TestNormAndGood(t *testing.T) {
	p := prime()
	for _, a := range numbers() {
		w := wordOf(a)
		same(t, "Norm", field.Norm(w), below(a), a)
		if got := field.Good(w); got != (a.Cmp(p) < 0) {
			t.Errorf("P7.1: Good of %x: %v", a, got)
		}
		if !field.Good(field.Norm(w)) {
			t.Errorf("P7.1: Norm of %x is not Good", a)
		}
	}
}

func TestGoodOnBothSidesOfThePrime(t *testing.T) {
	for n := int64(-300); n <= 300; n++ {
		if got := field.Good(wordOf(more(prime(), n))); got != (n < 0) {
			t.Errorf("P7.1: Good of the prime and %d: %v", n, got)
		}
	}
	// One byte less than the prime's own makes it good, whatever stands below; one more bad.
	for i, c := range wordOf(prime()) {
		w := wordOf(prime())
		for b := range 256 {
			w[i] = byte(b)
			if got := field.Good(w); got != (byte(b) < c) {
				t.Errorf("P7.1: Good of %x: %v", w, got)
			}
		}
	}
}

// Each with each, since what goes over hangs on both.
func TestAddSubAndMul(t *testing.T) {
	all := numbers()
	words := make([]api.Word, len(all))
	for i, a := range all {
		words[i] = wordOf(a)
	}
	p, out := prime(), new(big.Int)
	for i, a := range all {
		for j, b := range all {
			same(t, "Add", field.Add(words[i], words[j]), wordOf(out.Mod(out.Add(a, b), p)), a, b)
			same(t, "Sub", field.Sub(words[i], words[j]), wordOf(out.Mod(out.Sub(a, b), p)), a, b)
			same(t, "Mul", field.Mul(words[i], words[j]), wordOf(out.Mod(out.Mul(a, b), p)), a, b)
		}
	}
}

// A number, it and the prime, and it and twice the prime are one.
func TestNumbersCountModuloThePrime(t *testing.T) {
	end := powerOf2(256)
	for _, a := range numbers() {
		for b := new(big.Int).Add(a, prime()); b.Cmp(end) < 0; b.Add(b, prime()) {
			alike(t, wordOf(a), wordOf(b))
		}
	}
	for n := range int64(38) {
		alike(t, field.Of(n), wordOf(new(big.Int).Add(new(big.Int).Add(prime(), prime()), bigOf(n))))
	}
}

// alike fails where a call tells a from b.
func alike(t *testing.T, a, b api.Word) {
	t.Helper()
	c := wordOf(mixed(6))
	rootA, okA := field.Root(a)
	rootB, okB := field.Root(b)
	told := map[string]bool{
		"Norm":  field.Norm(a) == field.Norm(b),
		"Add":   field.Add(a, c) == field.Add(b, c) && field.Add(c, a) == field.Add(c, b),
		"Sub":   field.Sub(a, c) == field.Sub(b, c) && field.Sub(c, a) == field.Sub(c, b),
		"Mul":   field.Mul(a, c) == field.Mul(b, c) && field.Mul(c, a) == field.Mul(c, b),
		"Power": field.Power(a, c) == field.Power(b, c),
		"Inv":   field.Inv(a) == field.Inv(b),
		"Root":  rootA == rootB && okA == okB,
	}
	for call, ok := range told {
		if !ok {
			t.Errorf("P7.1: %s tells %x from %x", call, numberOf(a), numberOf(b))
		}
	}
}

func TestPower(t *testing.T) {
	bases := append(edges(), mixed(1), mixed(2), mixed(3))
	exponents := append(edges(), carrying()...)
	for _, a := range bases {
		for _, n := range exponents {
			want := new(big.Int).Exp(new(big.Int).Mod(a, prime()), n, prime())
			same(t, "Power", field.Power(wordOf(a), wordOf(n)), wordOf(want), a, n)
		}
	}
	for _, n := range powers() {
		for _, a := range []*big.Int{bigOf(2), mixed(1)} {
			want := new(big.Int).Exp(new(big.Int).Mod(a, prime()), n, prime())
			same(t, "Power", field.Power(wordOf(a), wordOf(n)), wordOf(want), a, n)
		}
	}
}

func TestPowersAtTheirEdges(t *testing.T) {
	p := prime()
	one := wordOf(bigOf(1))
	for _, a := range numbers() {
		w := wordOf(a)
		isNought := below(a) == api.Word{}
		same(t, "the 0th Power", field.Power(w, api.Word{}), one, a)
		same(t, "the 1st Power", field.Power(w, one), below(a), a)
		// n counts as it is, not modulo the prime: the p-th power is the number itself, and that is what 0 to the p-th is.
		same(t, "the p-th Power", field.Power(w, wordOf(p)), below(a), a)
		if last := field.Power(w, wordOf(more(p, -1))); (last == one) == isNought || isNought && last != (api.Word{}) {
			t.Errorf("P7.1: the Power of p-1 of %x: %x", a, last)
		}
	}
	for _, a := range []*big.Int{bigOf(0), p, new(big.Int).Add(p, p)} {
		for _, n := range numbers() {
			want := api.Word{}
			if n.Sign() == 0 {
				want = one
			}
			same(t, "Power", field.Power(wordOf(a), wordOf(n)), want, a, n)
		}
	}
}

func TestInv(t *testing.T) {
	for _, a := range numbers() {
		w := wordOf(a)
		if below(a) == (api.Word{}) {
			same(t, "Inv", field.Inv(w), api.Word{}, a)
			continue
		}
		same(t, "Inv", field.Inv(w), wordOf(new(big.Int).ModInverse(a, prime())), a)
		same(t, "Mul with Inv", field.Mul(w, field.Inv(w)), wordOf(bigOf(1)), a)
		same(t, "Inv of Inv", field.Inv(field.Inv(w)), below(a), a)
	}
	for n := int64(-100); n <= 100; n++ {
		if n != 0 {
			same(t, "Mul with Inv", field.Mul(field.Inv(field.Of(n)), field.Of(n)), field.Of(1), bigOf(n))
		}
	}
}

func TestInvAndRootOfNought(t *testing.T) {
	p := prime()
	for _, a := range []*big.Int{bigOf(0), p, new(big.Int).Add(p, p)} {
		same(t, "Inv", field.Inv(wordOf(a)), api.Word{}, a)
		if root, ok := field.Root(wordOf(a)); root != (api.Word{}) || !ok {
			t.Errorf("P7.1: Root of %x: %x, %v", a, root, ok)
		}
	}
}

// wantedRoot is the even root of a, nil if there is none.
func wantedRoot(a *big.Int) *big.Int {
	p := prime()
	root := new(big.Int).ModSqrt(new(big.Int).Mod(a, p), p)
	if root != nil && root.Bit(0) == 1 {
		root.Sub(p, root)
	}
	return root
}

// rooted fails where Root of a is not just what it should be, and tells whether there is one.
func rooted(t *testing.T, a *big.Int) bool {
	t.Helper()
	got, ok := field.Root(wordOf(a))
	want := wantedRoot(a)
	if want == nil {
		if ok || got != (api.Word{}) {
			t.Errorf("P7.1, R2: Root of %x, which has none: %x, %v", a, numberOf(got), ok)
		}
		return false
	}
	if !ok {
		t.Errorf("P7.1: Root of %x: none", a)
	}
	same(t, "Root", got, wordOf(want), a)
	if got[0]&1 != 0 || !field.Good(got) {
		t.Errorf("P7.1: Root of %x is not even, or not below the prime: %x", a, numberOf(got))
	}
	same(t, "Root's square", field.Mul(got, got), below(a), a)
	return true
}

func TestRoot(t *testing.T) {
	with, small := 0, 0
	for _, a := range numbers() {
		if rooted(t, a) {
			with++
		}
	}
	for n := range int64(1000) {
		if rooted(t, bigOf(n)) {
			small++
		}
	}
	// Else one of the two ways is not gone at all.
	if all := len(numbers()); with < all/4 || with > all-all/8 || small < 400 || small > 600 {
		t.Errorf("%d of %d numbers, and %d of 1000 small ones, have roots", with, all, small)
	}
}

func TestRootOfSquares(t *testing.T) {
	for _, a := range numbers() {
		square := field.Mul(wordOf(a), wordOf(a))
		if !rooted(t, numberOf(square)) {
			t.Errorf("P7.1: the square of %x has no root", a)
		}
		root, ok := field.Root(square)
		if other := field.Sub(api.Word{}, root); !ok || root != below(a) && other != below(a) {
			t.Errorf("P7.1: Root of the square of %x: %x, %v", a, numberOf(root), ok)
		}
	}
}

// 2 has no root, so neither has twice a square.
func TestWhatHasNoRoot(t *testing.T) {
	for _, a := range numbers() {
		w := wordOf(a)
		if below(a) == (api.Word{}) {
			continue
		}
		if root, ok := field.Root(field.Mul(field.Of(2), field.Mul(w, w))); ok || root != (api.Word{}) {
			t.Errorf("P7.1, R2: Root of twice the square of %x: %x, %v", a, numberOf(root), ok)
		}
	}
}

func TestOf(t *testing.T) {
	ns := []int64{0, 1, -1, 2, -2, 18, -18, 19, -19, 20, -20, 38, -38, 121665, -121665, math.MaxInt32, math.MinInt32, math.MaxUint32, -math.MaxUint32, math.MaxInt64 - 1, math.MaxInt64, math.MinInt64 + 1, math.MinInt64}
	for i := range 63 {
		n := int64(1) << i
		ns = append(ns, n, -n, n-1, 1-n, ^n)
	}
	for _, n := range ns {
		same(t, "Of", field.Of(n), below(bigOf(n)), bigOf(n))
		if !field.Good(field.Of(n)) {
			t.Errorf("P7.1: Of(%d) is not below the prime", n)
		}
		// -n is n, if it is the least of all.
		if n != math.MinInt64 {
			same(t, "Add of Of and Of of -n", field.Add(field.Of(n), field.Of(-n)), api.Word{}, bigOf(n))
		}
	}
}

// answers are those of all calls at a and b.
type answers struct {
	norm, add, sub, mul, power, inv, root, of api.Word
	good, ok                                  bool
}

func answersAt(a, b api.Word, n int64) answers {
	root, ok := field.Root(a)
	return answers{
		field.Norm(a), field.Add(a, b), field.Sub(a, b), field.Mul(a, b), field.Power(a, b), field.Inv(a), root, field.Of(n),
		field.Good(a), ok,
	}
}

func TestAnswersHangOnTheArgumentsAlone(t *testing.T) {
	all := append(edges(), carrying()...)
	first := make([]answers, len(all))
	at := func(i int) answers {
		return answersAt(wordOf(all[i]), wordOf(all[len(all)-1-i]), int64(i))
	}
	for i := range all {
		first[i] = at(i)
	}
	var group sync.WaitGroup
	for range 4 {
		group.Go(func() {
			for i := len(all) - 1; i >= 0; i-- {
				if at(i) != first[i] {
					t.Errorf("R5: another answer the next time, at %x", all[i])
				}
			}
		})
	}
	group.Wait()
}

func TestArgumentsStayAsTheyWere(t *testing.T) {
	for _, n := range append(edges(), mixed(1)) {
		for _, m := range append(edges(), mixed(2)) {
			a, b := wordOf(n), wordOf(m)
			answersAt(a, b, 1)
			if a != wordOf(n) || b != wordOf(m) {
				t.Errorf("R4: %x and %x have become %x and %x", n, m, a, b)
			}
		}
	}
	// The same one in both places.
	for _, n := range numbers() {
		a := wordOf(n)
		same(t, "Sub of it and itself", field.Sub(a, a), api.Word{}, n)
		same(t, "Add of it and itself", field.Add(a, a), field.Mul(field.Of(2), a), n)
		same(t, "Mul of it and itself", field.Mul(a, a), field.Power(a, field.Of(2)), n)
	}
}
