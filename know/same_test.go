package know_test

import (
	"math"
	"slices"
	"testing"

	"bandbox/know"
)

func TestAPlaceIsTheSameAsItself(t *testing.T) {
	things := secs(2, two(0, 1), box(0, 1), key(0, 1), two(0, 0), box(1, 1), key(4, math.MinInt), know.Thing{Kind: 1, A: -7, B: math.MaxInt, N: 3})
	for a := range things {
		for b := range things {
			same(t, "no two of them alike", things, a, b, a == b)
		}
	}
}

// Whatever else two have alike, they are of one Kind, and secrets of one place.
func TestEachKindWithEachOther(t *testing.T) {
	for _, a := range []int{0, 1} {
		for _, b := range []int{0, 1} {
			for _, n := range []int{0, 1, -1} {
				things := secs(2)
				for kind := 1; kind <= 4; kind++ {
					x := know.Thing{Kind: kind, A: a, B: b, N: n}
					things = append(things, x, x)
				}
				for i := 2; i < len(things); i++ {
					for j := 2; j < len(things); j++ {
						same(t, "each Kind with each", things, i, j, i == j || i/2 == j/2 && i > 3)
					}
					same(t, "with a secret", things, i, 0, false)
				}
			}
		}
	}
}

// pairOf asks Same of two things behind three secrets, whatever lies between them.
func pairOf(t *testing.T, what string, a, b know.Thing, want bool) {
	t.Helper()
	same(t, what, secs(3, a, b), 3, 4, want)
	same(t, what, secs(3, a, sec(), box(3, 4), b), 3, 6, want)
}

func TestWhatCountsAndWhatDoesNot(t *testing.T) {
	numbers := []int{math.MinInt, -1, 0, 1, 2, 3, 7, 500, math.MaxInt}
	for _, n := range numbers {
		for _, m := range numbers {
			pairOf(t, "a secret's A, B and N", know.Thing{Kind: 1, A: n, B: n, N: n}, know.Thing{Kind: 1, A: m, B: m, N: m}, false)
			pairOf(t, "a key's N", key(1, n), key(1, m), n == m)
			pairOf(t, "a key's B", know.Thing{Kind: 4, A: 1, B: n, N: 7}, know.Thing{Kind: 4, A: 1, B: m, N: 7}, true)
			pairOf(t, "a key's A, beside its B", know.Thing{Kind: 4, A: 0, B: n, N: 7}, know.Thing{Kind: 4, A: 1, B: m, N: 7}, false)
			for _, kind := range []int{2, 3} {
				pairOf(t, "the N of two, or of a seal", know.Thing{Kind: kind, A: 0, B: 1, N: n}, know.Thing{Kind: kind, A: 0, B: 1, N: m}, true)
				pairOf(t, "the A of two, or of a seal", know.Thing{Kind: kind, A: 0, B: 1, N: n}, know.Thing{Kind: kind, A: 2, B: 1, N: m}, false)
				pairOf(t, "the B of two, or of a seal", know.Thing{Kind: kind, A: 0, B: 1, N: n}, know.Thing{Kind: kind, A: 0, B: 2, N: m}, false)
			}
		}
	}
	for _, kind := range []int{2, 3} {
		for i := range 81 {
			a, b, c, d := i%3, i/3%3, i/9%3, i/27
			pairOf(t, "A and B of two, or of a seal", know.Thing{Kind: kind, A: a, B: b}, know.Thing{Kind: kind, A: c, B: d}, a == c && b == d)
		}
	}
}

// bits is a number of bits, the lowest first.
func bits(n, i int) int { return n >> i & 1 }

// Two towers, made of the same at each level but for what the lowest things are.
func TestTheSameManyLevelsDeep(t *testing.T) {
	levels := []func(a, b, n int) know.Thing{
		func(a, b, n int) know.Thing { return two(a, b) },
		func(a, b, n int) know.Thing { return box(a, b) },
		func(a, b, n int) know.Thing { return key(a, n) },
		func(a, b, n int) know.Thing { return two(b, a) },
		func(a, b, n int) know.Thing { return box(b, a) },
	}
	for _, ground := range []struct {
		a, b know.Thing
		want bool
	}{{key(0, 1), key(0, 1), true}, {key(0, 1), key(0, 2), false}, {key(0, 1), key(1, 1), false}, {box(0, 1), box(0, 1), true}, {box(0, 1), box(1, 0), false}, {two(0, 1), two(0, 1), true}, {two(0, 1), box(0, 1), false}, {sec(), sec(), false}} {
		for shift := range levels {
			things := secs(2, ground.a, ground.b)
			a, b := 2, 3
			for i := range 60 {
				level := levels[(i+shift)%len(levels)]
				things = append(things, level(a, a, i), level(b, b, i))
				was := b
				a, b = len(things)-2, len(things)-1
				same(t, "two towers", things, a, b, ground.want)
				same(t, "two towers, of another height", things, a, was, false)
				same(t, "a tower and its ground", things, a, 2, false)
			}
		}
	}
}

// Each level has two places of one thing below it: a way down each of them would be too many ways.
func TestTheSameWithManyWaysDown(t *testing.T) {
	ends(t, "Same, or All, of a table with many ways down", func() {
		for _, kinds := range [][]int{{2}, {3}, {2, 3}, {3, 3, 2, 2, 2}} {
			things := secs(2, key(0, 7), key(0, 7))
			for len(things) < 500 {
				n, kind := len(things), kinds[len(things)/2%len(kinds)]
				things = append(things, know.Thing{Kind: kind, A: n - 2, B: n - 1}, know.Thing{Kind: kind, A: n - 1, B: n - 2})
			}
			for n := 4; n < 500; n += 2 {
				if !know.Same(things, n, n+1) || !know.Same(things, n+1, n) || know.Same(things, n, n-2) || know.Same(things, n-1, n) {
					t.Errorf("P18.1: Same of %d, and of the one behind it or two ahead of it, Kinds %v", n, kinds)
				}
			}
			all(t, "many ways down, of the ground", things, []int{2}, run(2, 500)...)
			all(t, "many ways down, of the secret", things, []int{0}, append([]int{0}, run(2, 500)...)...)
			if slices.Equal(kinds, []int{2}) {
				all(t, "many ways down, of the top", things, []int{499}, run(2, 500)...)
			} else if slices.Equal(kinds, []int{3}) {
				all(t, "many ways down, of the top", things, []int{499}, 498, 499)
			}
		}
	})
}

// Two towers with many ways down each, which differ in their lowest things alone, or in nothing.
func TestTwoTowersWithManyWaysDown(t *testing.T) {
	ends(t, "Same of two towers", func() {
		for ways := range 16 {
			for _, number := range []int{7, 8} {
				things := secs(2, key(0, 7), key(0, number))
				a, b := []int{2, 2}, []int{3, 3}
				for len(things)+4 <= 500 {
					n := len(things)
					things = append(things, box(a[0], a[1]), box(a[bits(ways, 0)], a[bits(ways, 1)]), box(b[bits(ways, 2)], b[bits(ways, 3)]), box(b[1], b[0]))
					a, b = []int{n, n + 1}, []int{n + 2, n + 3}
				}
				for _, i := range a {
					for _, j := range b {
						same(t, "two towers", things, i, j, number == 7)
					}
				}
				same(t, "one tower", things, a[0], a[1], true)
				all(t, "the top of one of two towers", things, []int{a[0]}, slices.Sorted(slices.Values(append(like(things, a[0]), a[0])))...)
			}
		}
	})
}

// like are the places, but its own, that are the same as one by the test's own reckoning.
func like(things []know.Thing, place int) []int {
	p := write(things)
	var out []int
	for i := range things {
		if i != place && p.names[i] == p.names[place] {
			out = append(out, i)
		}
	}
	return out
}

func TestSameOfPlacesThatAreNone(t *testing.T) {
	things := secs(2, two(0, 1), box(0, 1), key(1, 7), key(1, 7))
	none := append([]int{6, 7, -2, -6, 12}, far...)
	for _, a := range none {
		for _, b := range none {
			same(t, "two that are none", things, a, b, false)
		}
		for place := range things {
			same(t, "one that is none", things, a, place, false)
		}
	}
	same(t, "two that are there", things, 4, 5, true)
}

func TestSameOfWhatMayNotBe(t *testing.T) {
	ahead := secs(2, key(1, 7), key(1, 7))
	same(t, "two that are there", ahead, 2, 3, true)
	for _, x := range []know.Thing{{}, {Kind: 5}, two(0, 4), box(4, 0), key(4, 7), key(-1, 7)} {
		nothing(t, slices.Concat(ahead, []know.Thing{x}))
		if know.Same(slices.Concat(ahead, []know.Thing{x}), 2, 3) {
			t.Errorf("P18.1: Same(2, 3) of a table with %v", x)
		}
	}
	long := slices.Concat(ahead, secs(497))
	nothing(t, long)
	if know.Same(long, 2, 3) {
		t.Errorf("P18.1: Same(2, 3) of 501 things")
	}
	same(t, "two that are there, of 500", long[:500], 2, 3, true)
}
