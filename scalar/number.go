package scalar

import (
	"math/bits"

	"bandbox/api"
	"bandbox/octet"
)

// order is L.
var order = number{0x5812631a5cf5d3ed, 0x14def9dea2f79cd6, 0, 0x1000000000000000}

// number is one in pieces of 64 bits, the lowest first; it may be L or past it.
type number [4]uint64

// long is one with room for any product of two, and a third behind it.
type long [8]uint64

func numberOf(w api.Word) number {
	var out number
	for i := range out {
		out[i], _ = octet.FromLittle(w[8*i : 8*i+8])
	}
	return out
}

func longOf(b [64]byte) long {
	var out long
	for i := range out {
		out[i], _ = octet.FromLittle(b[8*i : 8*i+8])
	}
	return out
}

// times is x times y, and z.
func (x number) times(y, z number) long {
	var out long
	copy(out[:], z[:])
	for i := range x {
		var over uint64
		for j := range y {
			over, out[i+j] = step(x[i], y[j], out[i+j], over)
		}
		out[i+len(y)] = over
	}
	return out
}

// below is x modulo L.
func (x long) below() number {
	var out number
	for i := len(x) - 1; i >= 0; i-- {
		out = out.next(x[i])
	}
	return out
}

// next puts a piece behind x, which is below L, and brings all that below L again. No bit decides which way it goes: how long it takes tells nothing.
func (x number) next(low uint64) number {
	// As often as 2^252 fits in, L is taken off; if 2^252 fits in 2^64 times, L doesn't, and is taken off once less.
	often := x[3]<<4 | x[2]>>60 | -(x[3] >> 60)
	x = number{low, x[0], x[1], x[2]}
	// With each bit turned a number is 2^256 - 1 less itself: what is put on it then is taken off it.
	var over uint64
	for i := range x {
		over, x[i] = step(often, order[i], ^x[i], over)
		x[i] = ^x[i]
	}
	// What L is beyond 2^252 may have been too much to take off; but all of that is less than one L.
	under := -(x[3] >> 63)
	over = 0
	for i := range x {
		x[i], over = bits.Add64(x[i], order[i]&under, over)
	}
	return x
}

func (x number) told() api.Word {
	var out api.Word
	for i := range out {
		out[i] = byte(x[i/8] >> (i % 8 * 8))
	}
	return out
}

// step is v times w, and x and y: all that comes to two pieces at most.
func step(v, w, x, y uint64) (high, low uint64) {
	high, low = bits.Mul64(v, w)
	low, over := bits.Add64(low, x, 0)
	high += over
	low, over = bits.Add64(low, y, 0)
	return high + over, low
}
