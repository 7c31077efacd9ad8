package know_test

import (
	"slices"
	"testing"

	"bandbox/know"
)

// holds fails where All, Can or Same of a table does not go together with itself, or with the other reckoning.
func holds(t *testing.T, d dice, p *paper, known []int) []int {
	t.Helper()
	want := p.all(known...)
	got := know.All(p.t, known...)
	if !slices.Equal(got, want) {
		t.Fatalf("P18.1: All of %v, known %v: %v, not %v", p.t, known, got, want)
	}
	for i := 1; i < len(got); i++ {
		if got[i] <= got[i-1] {
			t.Fatalf("P18.1: All is not rising: %v", got)
		}
	}
	if again := know.All(p.t, got...); !slices.Equal(again, got) {
		t.Fatalf("P18.1: All of %v: of its own answer %v it tells %v", p.t, got, again)
	}
	other := slices.Concat(known, known, far, []int{len(p.t)})
	d.Shuffle(len(other), func(i, j int) { other[i], other[j] = other[j], other[i] })
	if turned := know.All(p.t, other...); !slices.Equal(turned, got) {
		t.Fatalf("P18.1: All of %v hangs on the order: known %v: %v; known %v: %v", p.t, known, got, other, turned)
	}
	cans(t, "drawn", p.t, known, got)
	return got
}

// grows fails where less is known, when more is.
func grows(t *testing.T, d dice, p *paper, known, got []int) {
	t.Helper()
	more := slices.Clone(known)
	for range 3 {
		more = slices.Insert(more, d.Intn(len(more)+1), d.Intn(len(p.t)))
		all := know.All(p.t, more...)
		for _, place := range got {
			if !slices.Contains(all, place) {
				t.Fatalf("P18.1: All of %v: known %v: %v; known %v: %v", p.t, known, got, more, all)
			}
		}
		got = all
	}
}

func TestDrawnTables(t *testing.T) {
	d := roll(1802)
	var found, opened, lacking int
	for range 6000 {
		p := write(d.table(1 + d.Intn(16)))
		for range 4 {
			known := d.places(len(p.t))
			got := holds(t, d, p, known)
			grows(t, d, p, known, got)
			if len(got) > len(known) {
				found++
			}
			if slices.ContainsFunc(got, func(place int) bool { return len(known) > 0 && place < slices.Min(known) }) {
				opened++
			}
			if len(got) > 0 && len(got) < len(p.t) {
				lacking++
			}
		}
	}
	if found < 5000 || opened < 2000 || lacking < 5000 {
		t.Errorf("the test is no test: of 24000 drawn ones %d find more, %d open one ahead, %d lack some", found, opened, lacking)
	}
}

func TestDrawnLongTables(t *testing.T) {
	d := roll(1803)
	for _, n := range []int{40, 60, 100, 130, 250, 499, 500} {
		for range 8 {
			p := write(d.table(n))
			known := d.places(n)
			grows(t, d, p, known, holds(t, d, p, known))
		}
	}
}

// Each table of four things, but for what a Kind does not look at, with each choice of what is known.
func TestAllSmallTables(t *testing.T) {
	var tables func(ahead []know.Thing)
	d := roll(1804)
	count := 0
	tables = func(ahead []know.Thing) {
		if len(ahead) == 4 {
			count++
			p := write(ahead)
			for choice := range 16 {
				known := []int{}
				for place := range ahead {
					if choice>>place&1 == 1 {
						known = append(known, place)
					}
				}
				if got, want := know.All(ahead, known...), p.all(known...); !slices.Equal(got, want) {
					t.Fatalf("P18.1: All of %v, known %v: %v, not %v", ahead, known, got, want)
				}
			}
			alike(t, p)
			if count%50 == 0 {
				holds(t, d, p, []int{count % 4})
			}
			return
		}
		for _, x := range thingsAt(len(ahead)) {
			tables(append(slices.Clone(ahead), x))
		}
	}
	tables(nil)
	if count != 1*4*11*22 {
		t.Errorf("the test is no test: %d tables", count)
	}
}

// thingsAt are all things of the four Kinds that may stand at a place, keys with one number alone where there are many.
func thingsAt(place int) []know.Thing {
	out := []know.Thing{sec()}
	for a := range place {
		for b := range place {
			out = append(out, two(a, b), box(a, b))
		}
		out = append(out, key(a, a%2))
	}
	return out
}

// alike fails where Same of any two places tells something else than the other reckoning.
func alike(t *testing.T, p *paper) {
	t.Helper()
	for a := range p.t {
		for b := range p.t {
			if got := know.Same(p.t, a, b); got != (p.names[a] == p.names[b]) {
				t.Fatalf("P18.1: Same(%v, %d, %d) = %v", p.t, a, b, got)
			}
		}
	}
}

func TestDrawnSame(t *testing.T) {
	d := roll(1805)
	many := 0
	for range 3000 {
		p := write(d.table(1 + d.Intn(24)))
		alike(t, p)
		for i := range p.t {
			many += len(like(p.t, i))
		}
	}
	for range 40 {
		p := write(d.table(450 + d.Intn(51)))
		for range 60 {
			a, b := d.Intn(len(p.t)), d.Intn(len(p.t))
			same(t, "drawn", p.t, a, b, p.names[a] == p.names[b])
			if others := like(p.t, a); len(others) > 0 {
				same(t, "drawn, alike", p.t, a, others[d.Intn(len(others))], true)
			}
		}
	}
	if many < 5000 {
		t.Errorf("the test is no test: %d are the same as another one", many)
	}
}
