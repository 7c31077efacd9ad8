package know_test

import (
	"math"
	"slices"
	"testing"

	"bandbox/know"
)

func TestTheChaptersExample(t *testing.T) {
	things := []know.Thing{{Kind: 1}, {Kind: 1}, {Kind: 3, A: 0, B: 1}}
	all(t, "the example", things, []int{0, 2}, 0, 1, 2)
	if !know.Can(things, 1, 0, 2) {
		t.Errorf("P18.1: the example: known 0 and 2: 1 is not known")
	}
	if know.Can(things, 1, 2) || know.Can(things, 1, 0) {
		t.Errorf("P18.1: the example: 1 is known of one of them alone")
	}
}

func good(t *testing.T, things []know.Thing, want bool) {
	t.Helper()
	if got := know.Good(things); got != want {
		t.Errorf("P18.1: Good of %d, %v: %v", len(things), short(things), got)
	}
}

func TestGoodOfHowMany(t *testing.T) {
	good(t, nil, true)
	good(t, []know.Thing{}, true)
	good(t, make([]know.Thing, 0, 600), true)
	chain := []know.Thing{sec()}
	for i := range 599 {
		chain = append(chain, key(i, 0))
	}
	for _, row := range [][]know.Thing{secs(600), chain} {
		for _, n := range []int{1, 2, 255, 256, 257, 498, 499, 500} {
			good(t, row[:n], true)
			all(t, "how many there may be", row[:n], run(0, n), run(0, n)...)
			same(t, "how many there may be", row[:n], n-1, n-1, true)
		}
		for _, n := range []int{501, 502, 512, 600} {
			nothing(t, row[:n])
		}
	}
	nothing(t, secs(1<<16))
	nothing(t, make([]know.Thing, 501))
}

func TestAllOfNoThings(t *testing.T) {
	for _, things := range [][]know.Thing{nil, {}, make([]know.Thing, 0, 9)} {
		for _, known := range [][]int{nil, {}, {0}, {0, 1, 2}, far} {
			all(t, "no things", things, known)
		}
		same(t, "no things", things, 0, 0, false)
		same(t, "no things", things, -1, -1, false)
		same(t, "no things", things, 0, 1, false)
	}
}

// fits is what the chapter says of one thing at a place.
func fits(x know.Thing, place int) bool {
	a, b := x.A >= 0 && x.A < place, x.B >= 0 && x.B < place
	return x.Kind == 1 || (x.Kind == 2 || x.Kind == 3) && a && b || x.Kind == 4 && a
}

// about are numbers below, at, and above the places of a table of a length.
func about(place, length int) []int {
	out := []int{math.MinInt, math.MinInt + 1, -2, -1, 0, 1, place - 1, place, place + 1, length - 1, length, length + 1, 499, 500, 501, math.MaxInt - 1, math.MaxInt}
	slices.Sort(out)
	return slices.Compact(out)
}

// Each Kind with each A and B, at the front, in the midst and at the end.
func TestGoodOfEachThing(t *testing.T) {
	kinds := []int{math.MinInt, math.MinInt + 1, -4, -1, 0, 1, 2, 3, 4, 5, 6, 256 + 1, math.MaxInt - 1, math.MaxInt}
	for _, place := range []int{0, 1, 5, 8} {
		things := secs(9)
		for _, kind := range kinds {
			for _, a := range about(place, len(things)) {
				for _, b := range about(place, len(things)) {
					for _, n := range []int{math.MinInt, 0, 7, math.MaxInt} {
						x := know.Thing{Kind: kind, A: a, B: b, N: n}
						things[place] = x
						if !fits(x, place) {
							if n == 0 {
								nothing(t, things)
							}
							good(t, things, false)
							continue
						}
						good(t, things, true)
						if got := know.All(things, run(0, 9)...); !slices.Equal(got, run(0, 9)) {
							t.Fatalf("P18.1: All of %v, all known: %v", things, got)
						}
					}
				}
			}
		}
	}
}

// One that may not be makes the table one that may not be, wherever it is: first, in the midst, last.
func TestGoodOfEachPlace(t *testing.T) {
	row := secs(500)
	for place := range row {
		for _, x := range []know.Thing{{}, {Kind: 5}, two(place, 0), box(0, place), key(place, 1), key(-1, 1), two(-1, -1)} {
			row[place] = x
			if fits(x, place) {
				t.Fatalf("the test is no test: %v at %d", x, place)
			}
			good(t, row, false)
			if know.Same(row, 0, 0) || know.Can(row, 499, 499) || len(know.All(row, 0, 499)) != 0 {
				t.Errorf("P18.1: something is told of a table with %v at %d", x, place)
			}
		}
		if place > 0 {
			for _, x := range []know.Thing{two(place-1, 0), two(0, place-1), box(place-1, place-1), key(place-1, 1)} {
				row[place] = x
				good(t, row, true)
			}
		}
		row[place] = sec()
	}
}

// One more thing may be one that the table did not let be: what is ahead of it hangs on nothing behind it.
func TestGoodGrows(t *testing.T) {
	d := roll(1801)
	for range 300 {
		things := d.table(1 + d.Intn(30))
		for n := range len(things) + 1 {
			good(t, things[:n], true)
		}
		i := d.Intn(len(things))
		x := things[i]
		x.Kind = []int{0, 5, -1, 2, 3, 4}[d.Intn(6)]
		x.A, x.B = i+d.Intn(3), i+d.Intn(3)
		things[i] = x
		for n := range len(things) + 1 {
			good(t, things[:n], n <= i)
		}
	}
}
