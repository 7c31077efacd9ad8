package vec_test

import (
	"math"
	"testing"

	"bandbox/api"
	"bandbox/vec"
)

func TestTheChaptersExample(t *testing.T) {
	if got := vec.Cmp(vec.Vec{1}, vec.Vec{0, 1}); got != 2 {
		t.Errorf("P15.1: Cmp of {1, 0..} and {0, 1, 0..}: %d", got)
	}
}

// summed fails where Good or Sum tells something else of v; -1 is the sum of what may not be.
func summed(t *testing.T, v vec.Vec, sum int64) {
	t.Helper()
	if got := vec.Good(v); got != (sum != -1) {
		t.Errorf("P15.1: Good(%v) = %v", v, got)
	}
	if got := vec.Sum(v); got != sum {
		t.Errorf("P15.1: Sum(%v) = %d, not %d", v, got, sum)
	}
}

func TestGoodAndSum(t *testing.T) {
	cases := []struct {
		v   vec.Vec
		sum int64
	}{
		{vec.Vec{}, 0},
		{vec.Vec{1, 2, 3, 4, 5, 6, 7, 8}, 36},
		{vec.Vec{1, 10, 100, 1000, 10000, 100000, 1000000, 10000000}, 11111111},
		{filled(1), 8},
		{filled(most), 8 * most},
		{filled(most + 1), -1},
		{filled(-1), -1},
		{filled(math.MaxInt64), -1},
		{filled(math.MinInt64), -1},
		{vec.Vec{-1, 1}, -1},
		{vec.Vec{5, -1, 5}, -1},
		{vec.Vec{most + 1, -1}, -1},
		{vec.Vec{math.MaxInt64, 1, math.MinInt64}, -1},
		{vec.Vec{math.MinInt64, math.MinInt64}, -1},
		{vec.Vec{math.MaxInt64, math.MaxInt64, 2}, -1},
	}
	for _, c := range cases {
		summed(t, c.v, c.sum)
	}
}

func TestGoodAndSumOfEachPlaceAlone(t *testing.T) {
	for place := range devs {
		for _, others := range []int64{0, 3, most} {
			for _, n := range edges() {
				sum := int64(-1)
				if mayBe(n) {
					sum = n + 7*others
				}
				summed(t, alone(place, n, others), sum)
			}
			summed(t, alone(place, 3, -1), -1)
			summed(t, alone(place, 3, most+1), -1)
		}
	}
}

// has fails where Has tells something else.
func has(t *testing.T, v vec.Vec, d api.Dot, want bool) {
	t.Helper()
	if got := vec.Has(v, d); got != want {
		t.Errorf("P15.1: Has(%v, %v) = %v", v, d, got)
	}
}

func TestHasOfEachDevice(t *testing.T) {
	v := vec.Vec{1, 5, 0, 2, 3, most, 7, 4}
	for dev, n := range v {
		for _, c := range []struct {
			n    int64
			want bool
		}{{math.MinInt64, false}, {-n, false}, {-1, false}, {0, false}, {1, n >= 1}, {n, n >= 1}, {n - 1, n >= 2}, {n + 1, false}, {math.MaxInt64, false}} {
			has(t, v, api.Dot{Dev: dev, N: c.n}, c.want)
		}
	}
}

func TestHasOfNoDevice(t *testing.T) {
	for _, dev := range []int{-1, 8, -2, 9, -8, 15, 16, 256, math.MinInt, math.MaxInt, math.MinInt + 1, 1 << 32, 1<<32 + 1} {
		for _, n := range []int64{math.MinInt64, -1, 0, 1, 2, most, math.MaxInt64} {
			for _, v := range []vec.Vec{{}, filled(2), filled(most), filled(math.MaxInt64)} {
				has(t, v, api.Dot{Dev: dev, N: n}, false)
			}
		}
	}
}

// Has looks at the device's own number alone: neither what it is, nor another one, need be good.
func TestHasOfVectorsThatAreNotGood(t *testing.T) {
	for dev := range devs {
		for _, own := range edges() {
			for _, others := range []int64{0, most, most + 1, -1, math.MinInt64, math.MaxInt64} {
				v := alone(dev, own, others)
				for _, n := range edges() {
					has(t, v, api.Dot{Dev: dev, N: n}, n > 0 && n <= own)
				}
			}
		}
	}
}

// merged fails where Merge tells something else, in either order.
func merged(t *testing.T, a, b, want vec.Vec) {
	t.Helper()
	if got := vec.Merge(a, b); got != want {
		t.Errorf("P15.1: Merge(%v, %v) = %v, not %v", a, b, got, want)
	}
	if got := vec.Merge(b, a); got != want {
		t.Errorf("P15.1: Merge(%v, %v) = %v, not %v", b, a, got, want)
	}
}

func TestMerge(t *testing.T) {
	merged(t, vec.Vec{1, 5, 0, 2}, vec.Vec{2, 3, 0, 2}, vec.Vec{2, 5, 0, 2})
	merged(t, vec.Vec{1, 2, 3, 4, 5, 6, 7, 8}, vec.Vec{8, 7, 6, 5, 4, 3, 2, 1}, vec.Vec{8, 7, 6, 5, 5, 6, 7, 8})
	merged(t, vec.Vec{}, filled(-1), vec.Vec{})
	merged(t, filled(math.MinInt64), filled(-1), filled(-1))
	merged(t, filled(math.MinInt64), filled(math.MaxInt64), filled(math.MaxInt64))
	merged(t, filled(most), filled(most+1), filled(most+1))
	for _, v := range some() {
		merged(t, v, v, v)
		merged(t, v, filled(math.MinInt64), v)
		merged(t, v, filled(math.MaxInt64), filled(math.MaxInt64))
	}
}

func TestMergeOfEachPlaceAlone(t *testing.T) {
	for place := range devs {
		for _, x := range edges() {
			for _, y := range edges() {
				want := x
				if y > x {
					want = y
				}
				merged(t, alone(place, x, 4), alone(place, y, 4), alone(place, want, 4))
			}
		}
	}
}

func TestMergeOfManyInAnyOrder(t *testing.T) {
	all := filled(math.MinInt64)
	back := all
	vs := some()
	for i := range vs {
		all = vec.Merge(all, vs[i])
		back = vec.Merge(vs[len(vs)-1-i], back)
	}
	if all != back {
		t.Errorf("P15.1: Merge of many: %v in one order, %v in the other", all, back)
	}
	for _, v := range vs {
		if !vec.Le(v, all) || vec.Merge(all, v) != all {
			t.Errorf("P15.1: Merge of many has not all of %v", v)
		}
	}
}

// compared fails where Le or Cmp tells something else, in either order.
func compared(t *testing.T, a, b vec.Vec, want int) {
	t.Helper()
	back := want
	if want == -1 || want == 1 {
		back = -want
	}
	for _, c := range []struct {
		a, b vec.Vec
		cmp  int
	}{{a, b, want}, {b, a, back}} {
		if got := vec.Cmp(c.a, c.b); got != c.cmp {
			t.Errorf("P15.1: Cmp(%v, %v) = %d, not %d", c.a, c.b, got, c.cmp)
		}
		if got := vec.Le(c.a, c.b); got != (c.cmp == 0 || c.cmp == -1) {
			t.Errorf("P15.1: Le(%v, %v) = %v", c.a, c.b, got)
		}
	}
}

func TestLeAndCmp(t *testing.T) {
	compared(t, vec.Vec{}, vec.Vec{}, 0)
	compared(t, vec.Vec{}, vec.Vec{1, 2}, -1)
	compared(t, vec.Vec{1, 5, 0, 2}, vec.Vec{2, 3, 0, 2}, 2)
	compared(t, vec.Vec{1, 2, 3}, vec.Vec{1, 2, 4}, -1)
	compared(t, vec.Vec{1, 2, 3, 4, 5, 6, 7, 8}, vec.Vec{8, 7, 6, 5, 4, 3, 2, 1}, 2)
	compared(t, filled(1), filled(2), -1)
	compared(t, filled(-1), vec.Vec{}, -1)
	compared(t, filled(math.MinInt64), filled(math.MaxInt64), -1)
	compared(t, filled(most), filled(most+1), -1)
	compared(t, vec.Vec{math.MinInt64, 1}, vec.Vec{math.MaxInt64, 0}, 2)
	for _, v := range some() {
		compared(t, v, v, 0)
	}
}

func TestLeAndCmpOfEachPlaceAlone(t *testing.T) {
	for place := range devs {
		for _, x := range edges() {
			for _, y := range edges() {
				want := 0
				if x < y {
					want = -1
				} else if x > y {
					want = 1
				}
				compared(t, alone(place, x, 4), alone(place, y, 4), want)
			}
		}
	}
}

// One above in one place and below in another: each two places.
func TestCmpOfNeither(t *testing.T) {
	for up := range devs {
		for down := range devs {
			if up == down {
				continue
			}
			for _, others := range []int64{0, most, math.MinInt64 + 1, math.MaxInt64 - 1} {
				compared(t, alone(up, others+1, others), alone(down, others+1, others), 2)
				compared(t, alone(up, math.MaxInt64, others), alone(down, math.MaxInt64, others), 2)
			}
		}
	}
}

// Each way in which two can differ: a place of one is below, like or above that of the other.
func TestEveryPattern(t *testing.T) {
	pairs := [][2]int64{{3, 4}, {0, 1}, {-1, 0}, {most, most + 1}, {math.MinInt64, math.MaxInt64}}
	for pattern := range 3 * 3 * 3 * 3 * 3 * 3 * 3 * 3 {
		var a, b, greater vec.Vec
		below, above := false, false
		for i, p := 0, pattern; i < devs; i, p = i+1, p/3 {
			pair := pairs[(i+pattern)%len(pairs)]
			greater[i] = pair[1]
			switch p % 3 {
			case 0:
				a[i], b[i] = pair[1], pair[1]
			case 1:
				a[i], b[i] = pair[0], pair[1]
				below = true
			case 2:
				a[i], b[i] = pair[1], pair[0]
				above = true
			}
		}
		want := 0
		switch {
		case below && above:
			want = 2
		case below:
			want = -1
		case above:
			want = 1
		}
		compared(t, a, b, want)
		merged(t, a, b, greater)
	}
}
