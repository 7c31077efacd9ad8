package know_test

import (
	"crypto/sha256"
	"fmt"
	"math"
	"math/rand"
	"slices"
	"testing"
	"time"

	"bandbox/know"
)

// far are numbers that are a place of no table.
var far = []int{-1, math.MinInt, math.MaxInt, math.MinInt + 1, math.MaxInt - 1, 500, 501, -500}

// sec, two, box and key are things of the Kinds 1 to 4.
func sec() know.Thing               { return know.Thing{Kind: 1} }
func two(a, b int) know.Thing       { return know.Thing{Kind: 2, A: a, B: b} }
func box(by, inside int) know.Thing { return know.Thing{Kind: 3, A: by, B: inside} }
func key(of, number int) know.Thing { return know.Thing{Kind: 4, A: of, N: number} }

// secs are n secrets, and more behind them.
func secs(n int, more ...know.Thing) []know.Thing {
	return append(slices.Repeat([]know.Thing{sec()}, n), more...)
}

// run are the numbers from one to below another.
func run(from, end int) []int {
	var out []int
	for i := from; i < end; i++ {
		out = append(out, i)
	}
	return out
}

// paper is another reckoning of a table: each thing by a sum of what it is made of, so that the same have one name, and
// each place by each sentence of the chapter, till none tells anything new.
type paper struct {
	t     []know.Thing
	names []string
}

// write is paper of a table that may be.
func write(t []know.Thing) *paper {
	p := &paper{t: t}
	for i, x := range t {
		text := ""
		switch x.Kind {
		case 1:
			text = fmt.Sprint("the secret ", i)
		case 2:
			text = fmt.Sprint(p.names[x.A], " and ", p.names[x.B])
		case 3:
			text = fmt.Sprint(p.names[x.B], " sealed by ", p.names[x.A])
		case 4:
			text = fmt.Sprint("the key ", x.N, " of ", p.names[x.A])
		}
		p.names = append(p.names, fmt.Sprintf("%x", sha256.Sum256([]byte(text))))
	}
	return p
}

// all are the places that can be known, rising.
func (p *paper) all(known ...int) []int {
	has := map[int]bool{}
	for _, k := range known {
		if k >= 0 && k < len(p.t) {
			has[k] = true
		}
	}
	for n := -1; n < len(has); {
		n = len(has)
		for place := range p.t {
			if !has[place] && (p.opened(place, has) || p.made(place, has) || p.alike(place, has)) {
				has[place] = true
			}
		}
	}
	var out []int
	for place := range p.t {
		if has[place] {
			out = append(out, place)
		}
	}
	return out
}

// opened tells whether something that is known holds what is at a place, for whom knows what else is known.
func (p *paper) opened(place int, has map[int]bool) bool {
	for i, x := range p.t {
		if has[i] && (x.Kind == 2 && (x.A == place || x.B == place) || x.Kind == 3 && x.B == place && has[x.A]) {
			return true
		}
	}
	return false
}

// made tells whether what is at a place can be made of what is known.
func (p *paper) made(place int, has map[int]bool) bool {
	switch x := p.t[place]; x.Kind {
	case 2, 3:
		return has[x.A] && has[x.B]
	case 4:
		return has[x.A]
	}
	return false
}

// alike tells whether the same as what is at a place is known.
func (p *paper) alike(place int, has map[int]bool) bool {
	for i := range has {
		if p.names[i] == p.names[place] {
			return true
		}
	}
	return false
}

// dice draw tables and places, the same ones of one seed.
type dice struct{ *rand.Rand }

func roll(seed int64) dice { return dice{rand.New(rand.NewSource(seed))} }

// place is a place below an end, or, of late ones, one of the last few: they make deep tables.
func (d dice) place(end int, late bool) int {
	if late {
		return end - 1 - d.Intn(min(end, 4))
	}
	return d.Intn(end)
}

// table is one of a length that may be; what its Kinds do not look at is anything.
func (d dice) table(n int) []know.Thing {
	late := d.Intn(2) == 0
	secrets := 1 + d.Intn(4)
	var out []know.Thing
	for i := range n {
		numbers := []int{0, 1, -1, i, n, math.MinInt, math.MaxInt}
		x := know.Thing{Kind: 1, A: numbers[d.Intn(7)], B: numbers[d.Intn(7)], N: numbers[d.Intn(7)]}
		switch {
		case i < secrets || d.Intn(12) == 0:
		case d.Intn(4) == 0: // one that is there once more, by its own words
			x = out[d.Intn(i)]
			x.N += d.Intn(8) / 7
		default:
			x.Kind = 2 + d.Intn(3)
			x.A = d.place(i, late)
			if x.Kind != 4 {
				x.B = d.place(i, late)
			} else {
				x.N = d.Intn(2)
			}
		}
		out = append(out, x)
	}
	return out
}

// places are some of a table's, in any order, some twice.
func (d dice) places(n int) []int {
	var out []int
	for range d.Intn(5) {
		if n > 0 {
			out = append(out, d.Intn(n))
		}
	}
	for i := range n {
		if d.Intn(n) < 2 {
			out = append(out, i)
		}
	}
	d.Shuffle(len(out), func(i, j int) { out[i], out[j] = out[j], out[i] })
	return out
}

// all fails where All or Can tells something else than these.
func all(t *testing.T, what string, things []know.Thing, known []int, want ...int) {
	t.Helper()
	if !know.Good(things) {
		t.Fatalf("the test is no test: %s: %v may not be", what, things)
	}
	got := know.All(things, known...)
	if !slices.Equal(got, want) {
		t.Errorf("P18.1: %s: All of %v, known %v: %v, not %v", what, short(things), known, got, want)
	}
	cans(t, what, things, known, want)
}

// cans fails where Can tells something else than that it is these; of long tables only some places are asked for.
func cans(t *testing.T, what string, things []know.Thing, known, want []int) {
	t.Helper()
	asked := append([]int{len(things), len(things) + 1}, far...)
	for place := 0; place < len(things); place += 1 + len(things)/20 {
		asked = append(asked, place)
	}
	for _, place := range asked {
		if got := know.Can(things, place, known...); got != slices.Contains(want, place) {
			t.Errorf("P18.1: %s: Can(%v, %d), known %v: %v", what, short(things), place, known, got)
		}
	}
}

// short is a table as a failure tells it.
func short(things []know.Thing) []know.Thing { return things[:min(len(things), 30)] }

// nothing fails where anything is told of a table that may not be.
func nothing(t *testing.T, things []know.Thing) {
	t.Helper()
	if know.Good(things) {
		t.Errorf("P18.1: Good(%v) = true", short(things))
	}
	for _, known := range [][]int{nil, {0}, run(0, len(things)), far} {
		if got := know.All(things, known...); len(got) != 0 {
			t.Errorf("P18.1: All of %v, which may not be, known %v: %v", short(things), known, got)
		}
	}
	for _, place := range append(run(0, min(len(things), 12)+2), append([]int{len(things) - 1}, far...)...) {
		if know.Can(things, place, place, 0) {
			t.Errorf("P18.1: Can(%v, %d) of one that may not be", short(things), place)
		}
		if know.Same(things, place, place) || know.Same(things, place, 0) || know.Same(things, 0, place) {
			t.Errorf("P18.1: Same(%v, %d) of one that may not be", short(things), place)
		}
	}
}

// same fails where Same tells something else, either way round.
func same(t *testing.T, what string, things []know.Thing, a, b int, want bool) {
	t.Helper()
	if !know.Good(things) {
		t.Fatalf("the test is no test: %s: %v may not be", what, things)
	}
	if got := know.Same(things, a, b); got != want {
		t.Errorf("P18.1: %s: Same(%v, %d, %d) = %v", what, short(things), a, b, got)
	}
	if got := know.Same(things, b, a); got != want {
		t.Errorf("P18.1: %s: Same(%v, %d, %d) = %v", what, short(things), b, a, got)
	}
}

// ends fails where something goes on for very long.
func ends(t *testing.T, what string, f func()) {
	t.Helper()
	done := make(chan int)
	go func() {
		defer close(done)
		f()
	}()
	select {
	case <-done:
	case <-time.After(2 * time.Minute):
		t.Fatalf("R1: %s does not end", what)
	}
}
