package field

import (
	"math/bits"

	"bandbox/api"
	"bandbox/octet"
)

const (
	under = 19        // what 2^255 is beyond the prime
	twice = 2 * under // what 2^256 is beyond twice the prime
	low63 = 1<<63 - 1
	low64 = 1<<64 - 1
)

// number is one in pieces, a the lowest; it may be the prime or past it. It is no array, since Go would take that through memory at each step, and need more than twice the time.
type number struct{ a, b, c, d uint64 }

func numberOf(w api.Word) number {
	a, _ := octet.FromLittle(w[:8])
	b, _ := octet.FromLittle(w[8:16])
	c, _ := octet.FromLittle(w[16:24])
	d, _ := octet.FromLittle(w[24:])
	return number{a, b, c, d}
}

// beneath is 2^power - n, for a power from 193 to 256 and an n from 1 on.
func beneath(power int, n uint64) number {
	return number{-n, low64, low64, low64 >> (256 - power)}
}

func (x number) plus(y number) number {
	return folded(x.sum(y))
}

func (x number) minus(y number) number {
	// With each bit turned y is 2^256 - 1 - y, and that is 37 - y, modulo the prime.
	return x.plus(number{^y.a, ^y.b, ^y.c, ^y.d}).plus(beneath(256, twice+37))
}

func (x number) times(y number) number {
	row, over := x.row(y.a, number{})
	a := row.a
	row, over = x.row(y.b, number{row.b, row.c, row.d, over})
	b := row.a
	row, over = x.row(y.c, number{row.b, row.c, row.d, over})
	c := row.a
	row, over = x.row(y.d, number{row.b, row.c, row.d, over})
	low, high := number{a, b, c, row.a}, number{row.b, row.c, row.d, over}
	return folded(high.row(twice, low))
}

func (x number) power(n number) number {
	out := number{a: 1}
	for _, piece := range [...]uint64{n.d, n.c, n.b, n.a} {
		for i := 63; i >= 0; i-- {
			out = out.times(out)
			if piece>>i&1 == 1 {
				out = out.times(x)
			}
		}
	}
	return out
}

// told brings x below the prime, and writes it. No bit decides which way it goes: how long it takes tells nothing.
func (x number) told() api.Word {
	top := x.d >> 63
	x.d &= low63
	x, _ = x.sum(number{a: under * top})
	// Now x is below 2^255 + 19, and it is the prime or past it just if 19 more bring it to 2^255.
	past, _ := x.sum(number{a: under})
	x, _ = x.sum(number{a: under * (past.d >> 63)})
	x.d &= low63
	var out api.Word
	// Not by octet's Little, which makes new memory for each piece.
	for i := range 8 {
		out[i], out[i+8], out[i+16], out[i+24] = byte(x.a>>(8*i)), byte(x.b>>(8*i)), byte(x.c>>(8*i)), byte(x.d>>(8*i))
	}
	return out
}

// even is x or -x: of two numbers that come to the prime, which is odd, one is even (and 0 is).
func (x number) even() api.Word {
	out := x.told()
	if out[0]&1 == 1 {
		return number{}.minus(x).told()
	}
	return out
}

// row is v times x, and y, and what goes over 2^256.
func (x number) row(v uint64, y number) (number, uint64) {
	var over uint64
	over, x.a = step(v, x.a, y.a, 0)
	over, x.b = step(v, x.b, y.b, over)
	over, x.c = step(v, x.c, y.c, over)
	over, x.d = step(v, x.d, y.d, over)
	return x, over
}

// step is v times w, and x and y: all that comes to two pieces at most.
func step(v, w, x, y uint64) (high, low uint64) {
	high, low = bits.Mul64(v, w)
	low, over := bits.Add64(low, x, 0)
	high += over
	low, over = bits.Add64(low, y, 0)
	return high + over, low
}

// sum is x and y, and what goes over 2^256.
func (x number) sum(y number) (number, uint64) {
	var over uint64
	x.a, over = bits.Add64(x.a, y.a, 0)
	x.b, over = bits.Add64(x.b, y.b, over)
	x.c, over = bits.Add64(x.c, y.c, over)
	x.d, over = bits.Add64(x.d, y.d, over)
	return x, over
}

// folded is x with what goes over 2^256, which is 38, modulo the prime. If taking that in goes over too, x is so small that it can be taken in once more.
func folded(x number, over uint64) number {
	x, over = x.sum(number{a: twice * over})
	x, _ = x.sum(number{a: twice * over})
	return x
}
