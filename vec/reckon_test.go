package vec_test

import (
	"encoding/binary"
	"math"

	"bandbox/vec"
)

const (
	devs = 8
	most = int64(1) << 40
)

// filled has the same number in each place.
func filled(n int64) vec.Vec {
	return vec.Vec{n, n, n, n, n, n, n, n}
}

// alone has a number in one place, and another one in all others.
func alone(place int, n, others int64) vec.Vec {
	v := filled(others)
	v[place] = n
	return v
}

// edges are numbers that may be, and that may not.
func edges() []int64 {
	return []int64{0, 1, 2, 127, 128, 300, most - 1, most, most + 1, 1 << 41, 1 << 62, math.MaxInt64 - 1, math.MaxInt64, -1, -2, -128, -most, math.MinInt64 + 1, math.MinInt64}
}

func mayBe(n int64) bool {
	return n >= 0 && n <= most
}

// some are vectors of many kinds: noughts, all places alike, one place alone, mixed ones, with numbers that may be and that may not.
func some() []vec.Vec {
	out := []vec.Vec{{1, 2, 3, 4, 5, 6, 7, 8}, {8, 7, 6, 5, 4, 3, 2, 1}, {math.MaxInt64, math.MinInt64, -1, 0, 1, most, most + 1, -most}}
	for _, n := range edges() {
		out = append(out, filled(n), alone(0, n, 0), alone(5, n, 1), alone(7, n, most))
	}
	seed := uint64(15)
	for range 40 {
		var v vec.Vec
		for i := range v {
			seed = seed*6364136223846793005 + 1442695040888963407
			v[i] = int64(seed>>33) % 5
			if seed>>60 == 0 {
				v[i] = edges()[int(seed>>40%uint64(len(edges())))]
			}
		}
		out = append(out, v)
	}
	return out
}

// told reckons a vector's bytes in another way.
func told(v vec.Vec) []byte {
	var out []byte
	for _, n := range v {
		out = binary.AppendUvarint(out, uint64(max(n, 0)))
	}
	return out
}
