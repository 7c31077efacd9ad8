package point

import (
	"bandbox/api"
	"bandbox/field"
)

// bend is the curve's d.
var bend = api.Word{
	0xa3, 0x78, 0x59, 0x13, 0xca, 0x4d, 0xeb, 0x75, 0xab, 0xd8, 0x41, 0x41, 0x4d, 0x0a, 0x70, 0x00,
	0x98, 0xe8, 0x79, 0x77, 0x79, 0x40, 0xc7, 0x8c, 0x73, 0xfe, 0x6f, 0x2b, 0xee, 0x6c, 0x03, 0x52,
}

// acrossFrom is the even x at y, if there is one.
func acrossFrom(y api.Word) (api.Word, bool) {
	one := api.Word{1}
	square := field.Mul(y, y)
	// Never 0: -1 is a square, and d is none.
	under := field.Add(field.Mul(bend, square), one)
	return field.Root(field.Mul(field.Sub(square, one), field.Inv(under)))
}

// place is where a point is: at x/z and y/z, and t/z is both multiplied. So points are added without field's Inv, which takes as long as a hundred products.
type place struct{ x, y, z, t api.Word }

// zeroPlace is where Zero is.
func zeroPlace() place {
	one := api.Word{1}
	return place{y: one, z: one}
}

func placeOf(a api.Word) (place, bool) {
	x, y, ok := read(a)
	if !ok {
		return place{}, false
	}
	return place{x, y, api.Word{1}, field.Mul(x, y)}, true
}

// placeAt is the place at x/xUnder and y/yUnder.
func placeAt(x, xUnder, y, yUnder api.Word) place {
	return place{
		x: field.Mul(x, yUnder),
		y: field.Mul(y, xUnder),
		z: field.Mul(xUnder, yUnder),
		t: field.Mul(x, y),
	}
}

func (p place) told() api.Word {
	unit := field.Inv(p.z)
	return written(field.Mul(p.x, unit), field.Mul(p.y, unit))
}

// plus holds for any two, p and p and those whose sum is zero too, since d is no square: what it divides by is never 0.
func (p place) plus(q place) place {
	xx, yy, zz := field.Mul(p.x, q.x), field.Mul(p.y, q.y), field.Mul(p.z, q.z)
	bent := field.Mul(bend, field.Mul(p.t, q.t))
	cross := field.Mul(field.Add(p.x, p.y), field.Add(q.x, q.y))
	straight := field.Add(xx, yy)
	return placeAt(field.Sub(cross, straight), field.Add(zz, bent), straight, field.Sub(zz, bent))
}

// twice is p.plus(p), but sooner: on the curve 1 + d x^2 y^2 is y^2 - x^2.
func (p place) twice() place {
	xx, yy, zz, xy := field.Mul(p.x, p.x), field.Mul(p.y, p.y), field.Mul(p.z, p.z), field.Mul(p.x, p.y)
	under := field.Sub(yy, xx)
	return placeAt(field.Add(xy, xy), under, field.Add(xx, yy), field.Sub(field.Add(zz, zz), under))
}

// times is p, n times. Each four bits of n take the same steps, noughts too: how long it takes tells nothing of n.
func (p place) times(n api.Word) place {
	rows := p.multiples()
	out := zeroPlace()
	for i := len(n) - 1; i >= 0; i-- {
		out = out.sixteenfold().plus(rows[n[i]>>4])
		out = out.sixteenfold().plus(rows[n[i]&15])
	}
	return out
}

func (p place) sixteenfold() place {
	return p.twice().twice().twice().twice()
}

// multiples are p no times, once and so on, to fifteen times.
func (p place) multiples() [16]place {
	out := [16]place{zeroPlace()}
	for i := range out[1:] {
		out[i+1] = out[i].plus(p)
	}
	return out
}
