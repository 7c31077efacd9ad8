package scalar_test

import (
	"encoding/hex"
	"math/big"
	"sync"
	"testing"

	"bandbox/api"
	"bandbox/scalar"
	"bandbox/sha"
)

func bigOf(n int64) *big.Int { return big.NewInt(n) }

func powerOf2(n int) *big.Int { return new(big.Int).Lsh(bigOf(1), uint(n)) }

// order is L, as the chapter tells it.
func order() *big.Int {
	beyond, _ := new(big.Int).SetString("27742317777372353535851937790883648493", 10)
	return beyond.Add(beyond, powerOf2(252))
}

// more is v and n, for any n.
func more(v *big.Int, n int64) *big.Int { return new(big.Int).Add(v, bigOf(n)) }

// orders is n times L, and some.
func orders(n, some int64) *big.Int {
	v := order()
	return more(v.Mul(v, bigOf(n)), some)
}

// turned is b, the last byte first.
func turned(b []byte) []byte {
	out := make([]byte, len(b))
	for i, c := range b {
		out[len(b)-1-i] = c
	}
	return out
}

// wordOf is v's 32 bytes, the lowest first.
func wordOf(v *big.Int) api.Word {
	return api.Word(turned(v.FillBytes(make([]byte, 32))))
}

// longOf is v's 64 bytes, the lowest first.
func longOf(v *big.Int) [64]byte {
	return [64]byte(turned(v.FillBytes(make([]byte, 64))))
}

func numberOf(b []byte) *big.Int { return new(big.Int).SetBytes(turned(b)) }

// below is the word of v modulo L, for v below 0, too.
func below(v *big.Int) api.Word {
	return wordOf(new(big.Int).Mod(v, order()))
}

// edges are the numbers at which something begins or ends.
func edges() []*big.Int {
	out := []*big.Int{bigOf(0), bigOf(1), bigOf(2), orders(1, -2)}
	for _, n := range []int64{1, 2, 15} {
		out = append(out, orders(n, -1), orders(n, 0), orders(n, 1))
	}
	out = append(out, more(powerOf2(252), -1), powerOf2(252), powerOf2(253))
	return append(out, more(powerOf2(255), -1), powerOf2(255), more(powerOf2(256), -1))
}

// carrying are numbers whose sums and products carry through all bytes, or through those of some.
func carrying() []*big.Int {
	half := new(big.Int).Rsh(order(), 1)
	out := []*big.Int{half, more(half, 1), more(half, 2)}
	for n := int64(3); n < 15; n++ {
		out = append(out, orders(n, -1), orders(n, 0), orders(n, 1))
	}
	for _, n := range []int64{-3, -2, 2, 3} {
		out = append(out, more(powerOf2(252), n), more(powerOf2(256), -5+n), orders(1, n), orders(15, n))
	}
	for _, fill := range []byte{0x01, 0x10, 0x55, 0x7f, 0x80, 0xaa, 0xfe} {
		var w api.Word
		for i := range w {
			w[i] = fill
		}
		out = append(out, numberOf(w[:]))
	}
	for cut := 32; cut < 256; cut += 32 {
		high := new(big.Int).Sub(powerOf2(256), powerOf2(cut))
		under := new(big.Int).Sub(powerOf2(252), powerOf2(cut))
		out = append(out, high, more(high, 1), under, new(big.Int).Add(under, order()))
		if cut < 252 {
			out = append(out, new(big.Int).Sub(order(), powerOf2(cut)), new(big.Int).Add(order(), powerOf2(cut)))
		}
	}
	return append(out, mixed(1), mixed(2), mixed(3), mixed(4), mixed(5))
}

// mixed is a number with bytes of all kinds, another for each n.
func mixed(n int) *big.Int {
	var w api.Word
	for i := range w {
		w[i] = byte(i*i*7 + i*83*n + n*57 + i>>2*n*29)
	}
	return numberOf(w[:])
}

// powers are all powers of 2 to that of n, with the numbers one below them.
func powers(n int) []*big.Int {
	var out []*big.Int
	for i := range n + 1 {
		out = append(out, powerOf2(i), more(powerOf2(i), -1))
	}
	return out
}

func numbers() []*big.Int {
	return append(append(edges(), carrying()...), powers(255)...)
}

// same fails where a call's answer isn't just the one that is wanted.
func same(t *testing.T, call string, got, want api.Word, of ...*big.Int) {
	t.Helper()
	if got != want {
		t.Errorf("P8.1: %s of %x: %x, not %x", call, of, numberOf(got[:]), numberOf(want[:]))
	}
}

func TestTheChaptersExample(t *testing.T) {
	same(t, "Sub", scalar.Sub(api.Word{}, api.Word{1}), wordOf(orders(1, -1)), bigOf(0), bigOf(1))
}

func TestTheLowestByteStandsFirst(t *testing.T) {
	a, b := api.Word{0: 255, 31: 1}, api.Word{0: 1, 31: 2}
	if got, want := scalar.Add(a, b), (api.Word{1: 1, 31: 3}); got != want {
		t.Errorf("P8.1: Add: %x", got)
	}
	if got, want := scalar.Mul(api.Word{0: 2}, api.Word{3: 128}), (api.Word{4: 1}); got != want {
		t.Errorf("P8.1: Mul: %x", got)
	}
	if got, want := scalar.Long([64]byte{1, 2, 3}), (api.Word{1, 2, 3}); got != want {
		t.Errorf("P8.1: Long: %x", got)
	}
}

// The second half of a signature is reckoned by Long, Mul and Add alone: RFC 8032 has some.
func TestTheNumbersOfSignatures(t *testing.T) {
	for _, c := range []struct{ seed, public, text, sig string }{
		{
			"9d61b19deffd5a60ba844af492ec2cc44449c5697b326919703bac031cae7f60", "d75a980182b10ab7d54bfed3c964073a0ee172f3daa62325af021a68f707511a", "",
			"e5564300c360ac729086e2cc806e828a84877f1eb8e5d974d873e065224901555fb8821590a33bacc61e39701cf9b46bd25bf5f0595bbe24655141438e7a100b",
		},
		{
			"4ccd089b28ff96da9db6c346ec114e0f5b8a319f35aba624da8cf6ed4fb8a6fb", "3d4017c3e843895a92b70aa74d1b7ebc9c982ccf2ec4968cc0cd55f12af4660c", "72",
			"92a009a9f0d4cab8720e820b5f642540a2b27b5416503f8fb3762223ebdb69da085ac1e43e15996e458f3613d0f11d8c387b2eaeb4302aeeb00d291612bb0c00",
		},
		{
			"c5aa8df43f9f837bedb7442f31dcb7b166d38535076f094b85ce3a2e0b4458f7", "fc51cd8e6218a1a38da47ed00230f0580816ed13ba3303ac5deb911548908025", "af82",
			"6291d657deec24024827e69c3abe01a30ce548a284743a445e3680d7db5ac3ac18ff9b538d16f290ae67f760984dc6594a7c15e9716ed28dc027beceea1ec40a",
		},
	} {
		public, text, sig := unhex(t, c.public), unhex(t, c.text), unhex(t, c.sig)
		hash := sha.Long(unhex(t, c.seed))
		secret := api.Word(hash[:32])
		secret[0] &= 248
		secret[31] = secret[31]&127 | 64
		once := scalar.Long(sha.Long(hash[32:], text))
		times := scalar.Long(sha.Long(sig[:32], public, text))
		got := scalar.Add(once, scalar.Mul(times, secret))
		if got != api.Word(sig[32:]) || !scalar.Good(got) {
			t.Errorf("P8.1: the second half of the signature of %q: %x", c.text, got)
		}
	}
}

func unhex(t *testing.T, s string) []byte {
	t.Helper()
	b, err := hex.DecodeString(s)
	if err != nil {
		t.Fatal(err)
	}
	return b
}

func TestNormAndGood(t *testing.T) {
	l := order()
	for _, a := range numbers() {
		w := wordOf(a)
		same(t, "Norm", scalar.Norm(w), below(a), a)
		if got := scalar.Good(w); got != (a.Cmp(l) < 0) {
			t.Errorf("P8.1: Good of %x: %v", a, got)
		}
		if !scalar.Good(scalar.Norm(w)) {
			t.Errorf("P8.1: Norm of %x is not Good", a)
		}
	}
}

func TestGoodOnBothSidesOfL(t *testing.T) {
	for n := int64(-300); n <= 300; n++ {
		if got := scalar.Good(wordOf(orders(1, n))); got != (n < 0) {
			t.Errorf("P8.1: Good of L and %d: %v", n, got)
		}
	}
	// One byte less than L's own makes it good, whatever stands below; one more bad.
	for i, c := range wordOf(order()) {
		w := wordOf(order())
		for b := range 256 {
			w[i] = byte(b)
			if got := scalar.Good(w); got != (byte(b) < c) {
				t.Errorf("P8.1: Good of %x: %v", w, got)
			}
		}
	}
}

// Each with each, since what goes over hangs on both.
func TestAddSubAndMul(t *testing.T) {
	all := numbers()
	words := make([]api.Word, len(all))
	for i, a := range all {
		words[i] = wordOf(a)
	}
	l, out := order(), new(big.Int)
	for i, a := range all {
		for j, b := range all {
			same(t, "Add", scalar.Add(words[i], words[j]), wordOf(out.Mod(out.Add(a, b), l)), a, b)
			same(t, "Sub", scalar.Sub(words[i], words[j]), wordOf(out.Mod(out.Sub(a, b), l)), a, b)
			same(t, "Mul", scalar.Mul(words[i], words[j]), wordOf(out.Mod(out.Mul(a, b), l)), a, b)
		}
	}
}

func TestSubAtItsEdges(t *testing.T) {
	for _, a := range numbers() {
		w := wordOf(a)
		same(t, "Sub of it and itself", scalar.Sub(w, w), api.Word{}, a)
		for n := int64(0); n <= 15; n++ {
			same(t, "Sub of it and what counts as 0", scalar.Sub(w, wordOf(orders(n, 0))), below(a), a, orders(n, 0))
		}
		next := more(a, 1)
		if next.BitLen() <= 256 {
			same(t, "Sub of it and one more", scalar.Sub(w, wordOf(next)), wordOf(orders(1, -1)), a, next)
			same(t, "Sub of one more and it", scalar.Sub(wordOf(next), w), api.Word{1}, next, a)
		}
		rest := scalar.Sub(api.Word{}, w)
		same(t, "Sub of 0 and it", rest, below(new(big.Int).Neg(a)), a)
		same(t, "Add of it and what it lacks", scalar.Add(w, rest), api.Word{}, a)
	}
}

// longs are the numbers of up to 64 bytes at which something begins or ends.
func longs() []*big.Int {
	last := orders(1, -1)
	out := []*big.Int{new(big.Int).Mul(last, last), new(big.Int).Mul(order(), order()), powerOf2(256), more(powerOf2(512), -1)}
	most := new(big.Int).Div(powerOf2(512), order())
	out = append(out, new(big.Int).Mul(most, order()))
	for n := int64(0); n <= 40; n++ {
		out = append(out, orders(n, 0))
	}
	// What stands in the places ahead is then all but L, or just as great as 2^252 and no greater.
	for _, ahead := range []*big.Int{last, orders(1, 0), orders(1, 1), powerOf2(252), more(powerOf2(252), 1), more(powerOf2(252), -1)} {
		for places := 1; places <= 259; places++ {
			high := new(big.Int).Lsh(ahead, uint(places))
			out = append(out, high, new(big.Int).Add(high, more(powerOf2(places), -1)))
		}
	}
	var around []*big.Int
	for _, v := range append(out, powers(511)...) {
		around = append(around, v)
		if v.Sign() > 0 {
			around = append(around, more(v, -1))
		}
		if next := more(v, 1); next.BitLen() <= 512 {
			around = append(around, next)
		}
	}
	return around
}

func TestLong(t *testing.T) {
	for _, v := range longs() {
		same(t, "Long", scalar.Long(longOf(v)), below(v), v)
	}
	all := append(edges(), carrying()...)
	for _, high := range all {
		for _, low := range all {
			v := new(big.Int).Lsh(high, 256)
			v.Add(v, low)
			same(t, "Long", scalar.Long(longOf(v)), below(v), v)
		}
	}
}

func TestLongAtItsEdges(t *testing.T) {
	last := orders(1, -1)
	same(t, "Long", scalar.Long([64]byte{}), api.Word{}, bigOf(0))
	same(t, "Long", scalar.Long([64]byte{1}), api.Word{1}, bigOf(1))
	// L - 1 counts as -1.
	square := new(big.Int).Mul(last, last)
	same(t, "Long", scalar.Long(longOf(square)), api.Word{1}, square)
	for n := int64(1); n <= 1000; n++ {
		same(t, "Long", scalar.Long(longOf(orders(n, 0))), api.Word{}, orders(n, 0))
		same(t, "Long", scalar.Long(longOf(orders(n, -1))), wordOf(last), orders(n, -1))
	}
	for places := range 260 {
		v := new(big.Int).Lsh(order(), uint(places))
		if v.BitLen() > 512 {
			continue
		}
		same(t, "Long", scalar.Long(longOf(v)), api.Word{}, v)
		same(t, "Long", scalar.Long(longOf(more(v, -1))), wordOf(last), more(v, -1))
		same(t, "Long", scalar.Long(longOf(more(v, 1))), api.Word{1}, more(v, 1))
	}
}

func TestLongOf32BytesIsNorm(t *testing.T) {
	for _, a := range numbers() {
		var long [64]byte
		w := wordOf(a)
		copy(long[:], w[:])
		same(t, "Long", scalar.Long(long), scalar.Norm(w), a)
	}
}

// Each byte of the 64 counts: what it is worth is a power of 2.
func TestLongTakesEachByte(t *testing.T) {
	for i := range 64 {
		for _, c := range []byte{1, 0x10, 0x80, 0xff} {
			var long [64]byte
			long[i] = c
			v := new(big.Int).Lsh(bigOf(int64(c)), uint(8*i))
			same(t, "Long", scalar.Long(long), below(v), v)
		}
	}
}

// A number, and it with L once or more often on top, are one.
func TestNumbersCountModuloL(t *testing.T) {
	end := powerOf2(256)
	for _, a := range numbers() {
		for b := new(big.Int).Add(a, order()); b.Cmp(end) < 0; b.Add(b, order()) {
			alike(t, wordOf(a), wordOf(b))
		}
	}
	for n := int64(0); n <= 15; n++ {
		alike(t, api.Word{}, wordOf(orders(n, 0)))
	}
}

// alike fails where a call tells a from b.
func alike(t *testing.T, a, b api.Word) {
	t.Helper()
	c := wordOf(mixed(6))
	told := map[string]bool{
		"Norm": scalar.Norm(a) == scalar.Norm(b),
		"Add":  scalar.Add(a, c) == scalar.Add(b, c) && scalar.Add(c, a) == scalar.Add(c, b),
		"Sub":  scalar.Sub(a, c) == scalar.Sub(b, c) && scalar.Sub(c, a) == scalar.Sub(c, b),
		"Mul":  scalar.Mul(a, c) == scalar.Mul(b, c) && scalar.Mul(c, a) == scalar.Mul(c, b),
	}
	for call, ok := range told {
		if !ok {
			t.Errorf("P8.1: %s tells %x from %x", call, numberOf(a[:]), numberOf(b[:]))
		}
	}
}

// A number and it with L on top are one to Long too, on both sides of all that it takes.
func TestLongCountsModuloL(t *testing.T) {
	for _, a := range append(edges(), carrying()...) {
		for _, places := range []uint{0, 1, 63, 64, 65, 127, 128, 191, 192, 251, 252, 255} {
			b := new(big.Int).Add(a, new(big.Int).Lsh(order(), places))
			same(t, "Long", scalar.Long(longOf(b)), scalar.Norm(wordOf(a)), b)
		}
	}
}

// answers are those of all calls at a and b, and at both as one number of 64 bytes.
type answers struct {
	norm, long, add, sub, mul api.Word
	good                      bool
}

func answersAt(a, b api.Word, long [64]byte) answers {
	return answers{scalar.Norm(a), scalar.Long(long), scalar.Add(a, b), scalar.Sub(a, b), scalar.Mul(a, b), scalar.Good(a)}
}

func both(a, b api.Word) [64]byte {
	return [64]byte(append(a[:], b[:]...))
}

func TestAnswersHangOnTheArgumentsAlone(t *testing.T) {
	all := append(edges(), carrying()...)
	at := func(i int) answers {
		a, b := wordOf(all[i]), wordOf(all[len(all)-1-i])
		return answersAt(a, b, both(a, b))
	}
	first := make([]answers, len(all))
	for i := range all {
		first[i] = at(i)
	}
	var group sync.WaitGroup
	for range 4 {
		group.Go(func() {
			for i := len(all) - 1; i >= 0; i-- {
				if at(i) != first[i] {
					t.Errorf("R5: another answer the next time, at %x", all[i])
				}
			}
		})
	}
	group.Wait()
}

func TestArgumentsStayAsTheyWere(t *testing.T) {
	for _, n := range append(edges(), mixed(1)) {
		for _, m := range append(edges(), mixed(2)) {
			a, b := wordOf(n), wordOf(m)
			long := both(a, b)
			answersAt(a, b, long)
			if a != wordOf(n) || b != wordOf(m) || long != both(wordOf(n), wordOf(m)) {
				t.Errorf("R4: %x and %x have become %x and %x", n, m, a, b)
			}
		}
	}
	// The same one in both places.
	for _, n := range numbers() {
		a := wordOf(n)
		same(t, "Add of it and itself", scalar.Add(a, a), scalar.Mul(api.Word{2}, a), n)
		same(t, "Mul of it and itself", scalar.Mul(a, a), below(new(big.Int).Mul(n, n)), n)
	}
}
