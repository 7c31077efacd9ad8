package point_test

import (
	"encoding/hex"
	"math/big"
	"testing"

	"bandbox/api"
)

// spot is a point by its numbers, reckoned in another way than the package does it: by big numbers, and by the curve's own rule of adding.
type spot struct{ x, y *big.Int }

func bigOf(n int64) *big.Int { return big.NewInt(n) }

func powerOf2(n int) *big.Int { return new(big.Int).Lsh(bigOf(1), uint(n)) }

// more is v and n, for any n.
func more(v *big.Int, n int64) *big.Int { return new(big.Int).Add(v, bigOf(n)) }

func prime() *big.Int { return more(powerOf2(255), -19) }

// orders is n times L, and some.
func orders(n, some int64) *big.Int {
	v, _ := new(big.Int).SetString("27742317777372353535851937790883648493", 10)
	v.Add(v, powerOf2(252))
	return more(v.Mul(v, bigOf(n)), some)
}

func modulo(v *big.Int) *big.Int { return new(big.Int).Mod(v, prime()) }

func times(a, b *big.Int) *big.Int { return modulo(new(big.Int).Mul(a, b)) }

func over(a, b *big.Int) *big.Int { return times(a, new(big.Int).ModInverse(modulo(b), prime())) }

// bend is d, as the chapter tells it.
func bend() *big.Int { return over(bigOf(-121665), bigOf(121666)) }

// sum adds by RFC 8032's rule for the curve's points.
func sum(a, b spot) spot {
	xx, yy := times(a.x, b.x), times(a.y, b.y)
	bent := times(bend(), times(xx, yy))
	cross := new(big.Int).Add(times(a.x, b.y), times(b.x, a.y))
	return spot{over(cross, more(bent, 1)), over(new(big.Int).Add(yy, xx), new(big.Int).Sub(bigOf(1), bent))}
}

// multiple is a, n times.
func multiple(n *big.Int, a spot) spot {
	out := zeroSpot()
	for i := range n.BitLen() {
		if n.Bit(i) == 1 {
			out = sum(out, a)
		}
		a = sum(a, a)
	}
	return out
}

func otherSide(a spot) spot { return spot{modulo(new(big.Int).Neg(a.x)), a.y} }

func zeroSpot() spot { return spot{bigOf(0), bigOf(1)} }

// spotAt is the one at y whose x has that lowest bit, and false if there is none.
func spotAt(y *big.Int, odd uint) (spot, bool) {
	square := times(y, y)
	x := new(big.Int).ModSqrt(over(more(square, -1), more(times(bend(), square), 1)), prime())
	if x == nil || x.Sign() == 0 && odd == 1 {
		return spot{}, false
	}
	if x.Bit(0) != odd {
		x.Sub(prime(), x)
	}
	return spot{x, y}, true
}

// baseSpot is RFC 8032's base, by its numbers there.
func baseSpot(t *testing.T) spot {
	t.Helper()
	x, ok := new(big.Int).SetString("15112221349535400772501151409588531511454012693041857206046113283949847762202", 10)
	y, too := new(big.Int).SetString("46316835694926478169428394003475163141307993866256225615783033603165251855960", 10)
	if !ok || !too {
		t.Fatal("the base has no numbers")
	}
	return spot{x, y}
}

// wordOf is v's 32 bytes, the lowest first.
func wordOf(v *big.Int) api.Word {
	var w api.Word
	for i, c := range v.FillBytes(make([]byte, 32)) {
		w[31-i] = c
	}
	return w
}

// wordAt is the word of v with its highest bit set, if odd is 1.
func wordAt(v *big.Int, odd uint) api.Word {
	w := wordOf(v)
	w[31] |= byte(odd << 7)
	return w
}

func pointOf(s spot) api.Word { return wordAt(s.y, s.x.Bit(0)) }

func unhex(t *testing.T, s string) []byte {
	t.Helper()
	b, err := hex.DecodeString(s)
	if err != nil {
		t.Fatal(err)
	}
	return b
}

// mixed is a number with bytes of all kinds, another for each n.
func mixed(n int) *big.Int {
	b := make([]byte, 32)
	for i := range b {
		b[i] = byte(i*i*7 + i*83*n + n*57 + i>>2*n*29)
	}
	return new(big.Int).SetBytes(b)
}

// smallSpots are the eight whose eightfold is zero: the n-th is one of order 8, n times.
func smallSpots(t *testing.T) []spot {
	t.Helper()
	one, ok := spotAt(wordNumber(unhex(t, "26e8958fc2b227b045c3f489f2ef98f0d5dfac05d3c63339b13802886d53fc05")), 0)
	if !ok {
		t.Fatal("no point of order 8")
	}
	out := []spot{zeroSpot()}
	for range 7 {
		out = append(out, sum(out[len(out)-1], one))
	}
	half := sum(out[7], one)
	if half.x.Sign() != 0 || half.y.Cmp(bigOf(1)) != 0 || out[4].x.Sign() != 0 || out[4].y.Cmp(more(prime(), -1)) != 0 || out[2].y.Sign() != 0 || out[6].y.Sign() != 0 {
		t.Fatal("the points of small order are not")
	}
	return out
}

// wordNumber is the number in bytes, the lowest first.
func wordNumber(b []byte) *big.Int {
	out := new(big.Int)
	for i, c := range b {
		out.Add(out, new(big.Int).Lsh(bigOf(int64(c)), uint(8*i)))
	}
	return out
}

// baseSpots are multiples of the base, none of them zero.
func baseSpots(t *testing.T) []spot {
	t.Helper()
	base := baseSpot(t)
	out := []spot{base, otherSide(base)}
	for _, n := range []*big.Int{bigOf(2), bigOf(3), orders(1, -2), mixed(1), mixed(2)} {
		out = append(out, multiple(n, base))
	}
	return out
}

// spots are those of small order, multiples of the base, and sums of such.
func spots(t *testing.T) []spot {
	t.Helper()
	small, base := smallSpots(t), baseSpots(t)
	out := append(append([]spot{}, small...), base...)
	for i, s := range small[1:] {
		out = append(out, sum(s, base[0]), sum(s, base[i%len(base)]), sum(s, base[len(base)-1]))
	}
	return out
}

// fewSpots are one of each kind.
func fewSpots(t *testing.T) []spot {
	t.Helper()
	small, base := smallSpots(t), baseSpots(t)
	return []spot{small[0], small[4], small[2], small[1], base[0], base[5], sum(base[0], small[4]), sum(base[1], small[6]), sum(base[6], small[3])}
}
