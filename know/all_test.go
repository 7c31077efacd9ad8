package know_test

import (
	"fmt"
	"math"
	"slices"
	"testing"

	"bandbox/know"
)

// asked is what is known of a table, and what all can be known then.
type asked struct {
	known, want []int
}

// each asks All and Can of one table for each of these.
func each(t *testing.T, what string, things []know.Thing, cases ...asked) {
	t.Helper()
	for _, c := range cases {
		all(t, what, things, c.known, c.want...)
	}
}

func TestASecretByItself(t *testing.T) {
	each(t, "secrets", secs(3), asked{nil, nil}, asked{[]int{0}, []int{0}}, asked{[]int{1}, []int{1}}, asked{[]int{2}, []int{2}}, asked{[]int{2, 0}, []int{0, 2}})
	things := []know.Thing{{Kind: 1, A: 1, B: 2}, {Kind: 1, A: 0, B: 0}, {Kind: 1, N: 9}}
	each(t, "secrets that look at one another", things, asked{[]int{0}, []int{0}}, asked{[]int{1}, []int{1}}, asked{[]int{2}, []int{2}})
}

func TestTwoThings(t *testing.T) {
	for _, x := range []know.Thing{two(0, 1), two(1, 0), {Kind: 2, A: 0, B: 1, N: 7}, {Kind: 2, A: 1, B: 0, N: math.MinInt}} {
		each(t, "two things", secs(2, x),
			asked{nil, nil},
			asked{[]int{2}, []int{0, 1, 2}},
			asked{[]int{0}, []int{0}},
			asked{[]int{1}, []int{1}},
			asked{[]int{0, 1}, []int{0, 1, 2}},
			asked{[]int{0, 2}, []int{0, 1, 2}},
			asked{[]int{2, 1}, []int{0, 1, 2}})
	}
	each(t, "one thing twice", secs(2, two(0, 0)), asked{[]int{0}, []int{0, 2}}, asked{[]int{1}, []int{1}}, asked{[]int{2}, []int{0, 2}})
}

func TestOneSealedByAnother(t *testing.T) {
	for _, n := range []int{0, 1, -1, math.MaxInt} {
		each(t, "1 sealed by 0", secs(2, know.Thing{Kind: 3, A: 0, B: 1, N: n}),
			asked{nil, nil},
			asked{[]int{2}, []int{2}},
			asked{[]int{0}, []int{0}},
			asked{[]int{1}, []int{1}},
			asked{[]int{0, 1}, []int{0, 1, 2}},
			asked{[]int{0, 2}, []int{0, 1, 2}},
			asked{[]int{1, 2}, []int{1, 2}})
		each(t, "0 sealed by 1", secs(2, know.Thing{Kind: 3, A: 1, B: 0, N: n}),
			asked{[]int{2}, []int{2}},
			asked{[]int{1, 2}, []int{0, 1, 2}},
			asked{[]int{0, 2}, []int{0, 2}},
			asked{[]int{0, 1}, []int{0, 1, 2}})
	}
	each(t, "one sealed by itself", secs(2, box(0, 0)), asked{[]int{0}, []int{0, 2}}, asked{[]int{2}, []int{2}}, asked{[]int{1, 2}, []int{1, 2}})
}

func TestAKeyOfAnother(t *testing.T) {
	for _, b := range []int{0, 1, 2, 9, -1, math.MinInt, math.MaxInt} {
		for _, n := range []int{0, 1, 2, -1, math.MinInt, math.MaxInt} {
			each(t, "a key of 0", secs(2, know.Thing{Kind: 4, A: 0, B: b, N: n}),
				asked{nil, nil},
				asked{[]int{0}, []int{0, 2}},
				asked{[]int{1}, []int{1}},
				asked{[]int{2}, []int{2}},
				asked{[]int{1, 2}, []int{1, 2}})
			each(t, "a key of 1", secs(2, know.Thing{Kind: 4, A: 1, B: b, N: n}), asked{[]int{0}, []int{0}}, asked{[]int{1}, []int{1, 2}}, asked{[]int{2}, []int{2}})
		}
	}
}

// What comes only by way of several others, up and down the table.
func TestByWayOfOthers(t *testing.T) {
	each(t, "a later one that holds both a seal and its key", secs(2, box(0, 1), two(0, 2)),
		asked{[]int{3}, []int{0, 1, 2, 3}}, asked{[]int{2}, []int{2}}, asked{[]int{1}, []int{1}})
	each(t, "keys of keys, and what is made of them", secs(1, key(0, 1), key(1, 1), two(1, 2), box(3, 0)),
		asked{[]int{0}, run(0, 5)}, asked{[]int{1}, []int{1, 2, 3}}, asked{[]int{2}, []int{2}}, asked{[]int{4}, []int{4}}, asked{[]int{4, 1}, run(0, 5)}, asked{[]int{3}, []int{1, 2, 3}})
	each(t, "a key that is made, and opens", secs(2, key(0, 3), box(2, 1)),
		asked{[]int{0, 3}, run(0, 4)}, asked{[]int{2, 3}, []int{1, 2, 3}}, asked{[]int{1, 3}, []int{1, 3}}, asked{[]int{1, 0}, run(0, 4)})
	each(t, "one of two that makes a key that opens a secret that makes a key", secs(3, key(0, 1), box(3, 1), two(0, 2), key(1, 1), key(2, 1)),
		asked{[]int{4, 5}, run(0, 8)}, asked{[]int{5}, []int{0, 2, 3, 5, 7}}, asked{[]int{4}, []int{4}}, asked{[]int{4, 3}, []int{1, 3, 4, 6}}, asked{[]int{4, 2}, []int{2, 4, 7}})
	each(t, "seals in seals", secs(3, box(0, 2), box(1, 3), box(0, 4)),
		asked{[]int{5}, []int{5}}, asked{[]int{0, 5}, []int{0, 4, 5}}, asked{[]int{1, 5}, []int{1, 5}}, asked{[]int{0, 1, 5}, run(0, 6)}, asked{[]int{0, 4}, []int{0, 4, 5}}, asked{[]int{1, 4}, []int{1, 3, 4}}, asked{[]int{3, 4}, []int{3, 4}})
	each(t, "a seal that holds its own key", secs(1, key(0, 1), two(0, 1), box(1, 2)),
		asked{[]int{3}, []int{3}}, asked{[]int{1, 3}, run(0, 4)}, asked{[]int{0}, run(0, 4)}, asked{[]int{1}, []int{1}})
	each(t, "two seals, each of the other one's key", secs(2, box(0, 1), box(1, 0)),
		asked{[]int{2, 3}, []int{2, 3}}, asked{[]int{0, 3}, []int{0, 3}}, asked{[]int{0, 2}, run(0, 4)}, asked{[]int{1, 3}, run(0, 4)}, asked{[]int{1, 2}, []int{1, 2}})
}

// The same as something that is known is known, though it can neither be made nor opened.
func TestTheSameAsKnown(t *testing.T) {
	each(t, "secrets, each one of its own", secs(2), asked{[]int{0}, []int{0}}, asked{[]int{1}, []int{1}})
	each(t, "two things, twice", secs(2, two(0, 1), two(0, 1), two(1, 0)), asked{[]int{2}, run(0, 5)}, asked{[]int{3}, run(0, 5)}, asked{[]int{4}, run(0, 5)}, asked{[]int{0}, []int{0}})
	each(t, "a seal, twice, and another way round", secs(2, box(0, 1), box(0, 1), box(1, 0), box(0, 0)),
		asked{[]int{2}, []int{2, 3}}, asked{[]int{3}, []int{2, 3}}, asked{[]int{4}, []int{4}}, asked{[]int{5}, []int{5}}, asked{[]int{3, 4}, []int{2, 3, 4}})
	each(t, "a key, twice, and others", secs(2, key(0, 7), key(1, 7), key(0, 7), key(0, 8), key(0, -7)),
		asked{[]int{2}, []int{2, 4}}, asked{[]int{4}, []int{2, 4}}, asked{[]int{3}, []int{3}}, asked{[]int{5}, []int{5}}, asked{[]int{6}, []int{6}}, asked{[]int{0}, []int{0, 2, 4, 5, 6}})
	each(t, "what does not count", secs(2, know.Thing{Kind: 3, A: 0, B: 1, N: 4}, know.Thing{Kind: 3, A: 0, B: 1, N: 5}, know.Thing{Kind: 4, A: 0, B: 1, N: 4}, know.Thing{Kind: 4, A: 0, B: -9, N: 4}),
		asked{[]int{2}, []int{2, 3}}, asked{[]int{3}, []int{2, 3}}, asked{[]int{4}, []int{4, 5}}, asked{[]int{5}, []int{4, 5}})
	each(t, "one pair and one seal of the same", secs(2, two(0, 1), box(0, 1)), asked{[]int{3}, []int{3}}, asked{[]int{2}, run(0, 4)})
	each(t, "three of them", secs(2, box(0, 1), box(0, 1), box(0, 1)), asked{[]int{2}, run(2, 5)}, asked{[]int{3}, run(2, 5)}, asked{[]int{4}, run(2, 5)})
}

// Things are the same by way of things that are, and what is the same opens, makes and is held alike.
func TestTheSameByWayOfOthers(t *testing.T) {
	seals := secs(2, box(0, 1), box(0, 1))
	with := func(more ...know.Thing) []know.Thing { return slices.Concat(seals, more) }
	each(t, "keys of the same", with(key(2, 5), key(3, 5), key(3, 6)), asked{[]int{4}, []int{4, 5}}, asked{[]int{5}, []int{4, 5}}, asked{[]int{6}, []int{6}}, asked{[]int{2}, run(2, 7)}, asked{[]int{3}, run(2, 7)})
	each(t, "seals by the same", with(sec(), box(2, 4), box(3, 4), box(4, 2), box(4, 3)),
		asked{[]int{5}, []int{5, 6}}, asked{[]int{6}, []int{5, 6}}, asked{[]int{7}, []int{7, 8}}, asked{[]int{8}, []int{7, 8}})
	each(t, "a seal that the same opens", with(sec(), box(3, 4)), asked{[]int{2, 5}, run(2, 6)}, asked{[]int{3, 5}, run(2, 6)}, asked{[]int{4, 5}, []int{4, 5}}, asked{[]int{2, 4}, run(2, 6)})
	each(t, "a pair that the same makes", with(sec(), two(3, 4)), asked{[]int{2, 4}, run(2, 6)}, asked{[]int{5}, run(2, 6)}, asked{[]int{4}, []int{4}}, asked{[]int{2}, []int{2, 3}})
	each(t, "what is the same as what is held", with(sec(), box(4, 3), key(2, 1)), asked{[]int{4, 5}, run(2, 7)}, asked{[]int{5}, []int{5}})
	each(t, "pairs of the same", with(two(2, 3), two(3, 2), two(2, 2), two(3, 3), two(0, 2)), asked{[]int{4}, run(2, 8)}, asked{[]int{7}, run(2, 8)}, asked{[]int{2}, run(2, 8)}, asked{[]int{8, 0}, append([]int{0}, run(1, 9)...)})
	each(t, "a key, made at one place, that opens what is sealed by it at another", secs(2, key(0, 7), key(0, 7), box(3, 1)), asked{[]int{2, 4}, run(1, 5)}, asked{[]int{3, 4}, run(1, 5)}, asked{[]int{4}, []int{4}})
}

// end is a long chain's length: as many things as there may be.
const end = 500

func TestLongChainsOfKeys(t *testing.T) {
	things := secs(1)
	for i := range end - 1 {
		things = append(things, key(i, i%3))
	}
	for _, from := range []int{0, 1, 2, 250, 498, 499} {
		all(t, "keys of keys", things, []int{from}, run(from, end)...)
	}
	all(t, "keys of keys", things, []int{77, 300, 499}, run(77, end)...)
	all(t, "keys of keys", things, nil)
}

func TestLongChainsOfPairs(t *testing.T) {
	for _, ways := range []func(i int) know.Thing{func(i int) know.Thing { return two(i, i) }, func(i int) know.Thing { return two(i, i/2) }, func(i int) know.Thing { return two(0, i) }} {
		things := secs(1)
		for i := range end - 1 {
			things = append(things, ways(i))
		}
		for _, from := range []int{0, 1, 2, 250, 498, 499} {
			all(t, "pairs of pairs", things, []int{from}, run(0, end)...)
		}
	}
}

func TestLongChainsOfSeals(t *testing.T) {
	up, down := secs(1), secs(2, box(0, 1))
	for len(up) < end {
		up = append(up, box(len(up)-1, len(up)-1))
	}
	for len(down) < end {
		down = append(down, box(0, len(down)-1))
	}
	for _, from := range []int{0, 1, 2, 250, 498, 499} {
		all(t, "seals that are made", up, []int{from}, run(from, end)...)
		if from > 0 {
			all(t, "seals, of which one opens all", down, []int{from, 0}, run(0, end)...)
			all(t, "seals, none of which opens", down, []int{from}, from)
		}
	}
	all(t, "seals, none of which is known", down, []int{0}, 0)
}

// zigzag is a table of links: a secret makes a key, which opens the next secret. Each next secret stands ahead, if down is
// true, behind else; the links are in their order, or, if turned is true, the last one stands first. It tells the places of
// the secrets and of the seals as well, by their links.
func zigzag(links int, down, turned bool) (things []know.Thing, secrets, seals []int) {
	things = secs(links)
	secrets, seals = run(0, links), make([]int, links-1)
	if down {
		slices.Reverse(secrets)
	}
	for i := range links - 1 {
		link := i
		if turned {
			link = links - 2 - i
		}
		n := len(things)
		things = append(things, key(secrets[link], 1), box(n, secrets[link+1]))
		seals[link] = n + 1
	}
	return things, secrets, seals
}

func TestLongChainsUpAndDown(t *testing.T) {
	for _, down := range []bool{true, false} {
		for _, turned := range []bool{true, false} {
			what := fmt.Sprint("secrets, keys and seals, down ", down, ", turned ", turned)
			things, secrets, seals := zigzag(167, down, turned)
			if len(things) != 499 {
				t.Fatalf("the test is no test: %d things", len(things))
			}
			all(t, what, things, append([]int{secrets[0]}, seals...), run(0, len(things))...)
			sealsAlone := slices.Sorted(slices.Values(seals))
			all(t, what+", no secret known", things, seals, sealsAlone...)
			last := append([]int{secrets[166]}, seals...)
			all(t, what+", the last secret known", things, last, slices.Sorted(slices.Values(last))...)
			gap := slices.Delete(slices.Clone(seals), 80, 81)
			got := know.All(things, append([]int{secrets[0]}, gap...)...)
			want := write(things).all(append([]int{secrets[0]}, gap...)...)
			if !slices.Equal(got, want) || slices.Contains(got, secrets[81]) || !slices.Contains(got, secrets[80]) {
				t.Errorf("P18.1: %s, one seal lacking: %v, not %v", what, got, want)
			}
		}
	}
}

// A chain on which each step is one thing that is the same as another one: no secret of it is ever known.
func TestLongChainsOfTheSame(t *testing.T) {
	const links = 124
	for _, turned := range []bool{true, false} {
		things := secs(1 + links)
		for i := range links {
			things = append(things, box(0, 1+i)) // known, or opened
		}
		for i := range links {
			things = append(things, box(0, 1+i)) // the same once more, which opens the next
		}
		first, again := 1+links, 1+2*links
		for i := range links - 1 {
			link := i
			if turned {
				link = links - 2 - i
			}
			things = append(things, box(again+link, first+link+1))
		}
		seals := run(again+links, len(things))
		all(t, "links of the same", things, append([]int{first}, seals...), run(first, len(things))...)
		all(t, "links of the same, none of which is known", things, seals, seals...)
		if len(things) != 496 {
			t.Errorf("the test is no test: %d things", len(things))
		}
	}
}

func TestPlacesThatAreNone(t *testing.T) {
	things := secs(2, two(0, 1), box(0, 1), key(1, 7))
	none := append([]int{5, 6, -2, -5}, far...)
	all(t, "nothing known", things, nil)
	all(t, "nothing known", things, []int{})
	all(t, "none that are places", things, none)
	for _, n := range none {
		all(t, "one that is none", things, []int{n})
		all(t, "one that is none, ahead", things, []int{n, 1}, 1, 4)
		all(t, "one that is none, behind", things, []int{1, n}, 1, 4)
		all(t, "one that is none, between", things, []int{3, n, 0}, run(0, 5)...)
	}
	all(t, "all of them", things, slices.Concat(none, []int{4}, none, []int{3}, none), 3, 4)
	if got := know.All(things); len(got) != 0 || know.Can(things, 0) || know.Can(things, -1) {
		t.Errorf("P18.1: All with nothing told: %v", got)
	}
}

func TestPlacesInAnyOrderAndTwice(t *testing.T) {
	things := secs(3, two(0, 1), box(0, 2), key(1, 7), box(5, 2))
	for _, c := range []asked{{[]int{0, 4}, []int{0, 2, 4}}, {[]int{1, 6}, []int{1, 2, 5, 6}}, {[]int{4, 5}, []int{4, 5}}, {[]int{3, 4, 6}, run(0, 7)}} {
		all(t, "as they are", things, c.known, c.want...)
		turned := slices.Clone(c.known)
		slices.Reverse(turned)
		all(t, "turned", things, turned, c.want...)
		all(t, "twice", things, slices.Concat(c.known, c.known), c.want...)
		all(t, "twice, turned", things, slices.Concat(turned, c.known, turned), c.want...)
		all(t, "a thousand times", things, slices.Repeat(turned, 1000), c.want...)
	}
}

// Of one that may not be nothing is told, also where all but one thing of it may be, and that one is not asked for.
func TestAllOfWhatMayNotBe(t *testing.T) {
	ahead := secs(2, two(0, 1), box(0, 1), key(1, 7))
	for _, x := range []know.Thing{{}, {Kind: 5}, {Kind: -1}, two(0, 5), two(5, 0), two(-1, 0), two(0, -1), box(0, 5), box(5, 0), box(-1, 0), box(0, -1), key(5, 0), key(-1, 0), key(6, 0), two(math.MaxInt, 0), box(0, math.MinInt), key(math.MinInt, 0), key(math.MaxInt, 0)} {
		nothing(t, slices.Concat(ahead, []know.Thing{x}))
		nothing(t, slices.Concat(ahead, []know.Thing{x, sec(), key(0, 1)}))
	}
	for _, x := range []know.Thing{{}, {Kind: 5}, two(0, 0), box(0, 0), key(0, 0)} {
		nothing(t, []know.Thing{x})
		nothing(t, slices.Concat([]know.Thing{x}, secs(3)))
	}
}
