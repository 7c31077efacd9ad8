package book_test

import (
	"math"
	"slices"
	"testing"

	"bandbox/api"
	"bandbox/book"
	"bandbox/vec"
)

// dots are those of a book's Edits.
func dots(b *book.Book) []api.Dot {
	var out []api.Dot
	for _, e := range b.Edits() {
		out = append(out, e.Dot)
	}
	return out
}

func TestEditsByDevThenNumber(t *testing.T) {
	want := []api.Dot{{Dev: 0, N: 2}, {Dev: 0, N: 10}, {Dev: 1, N: 1}, {Dev: 1, N: 2}, {Dev: 1, N: most}, {Dev: 4, N: 9}, {Dev: 7, N: 1}, {Dev: 7, N: most - 1}, {Dev: 7, N: most}}
	d := dice(1)
	for range 40 {
		b := book.New()
		places := slices.Clone(want)
		for i := range places {
			j := i + d.draw(len(places)-i)
			places[i], places[j] = places[j], places[i]
			// A Time that falls as the number rises, so that no other order is this one.
			e := plain(places[i].Dev, places[i].N)
			e.Time = most - e.Dot.N
			b.Add(e)
		}
		if got := dots(b); !slices.Equal(got, want) {
			t.Fatalf("P17.1: Edits: %v", got)
		}
	}
}

// Those that are ended, and those of Kind 2, are told as well, whole.
func TestEditsTellsAll(t *testing.T) {
	a, c, e := sets(0, 1, vec.Vec{0, 9}, "ann", "tel", "\x00\xff", 3), sets(0, 2, vec.Vec{}, "ann", "tel", "", 4), removes(1, 1, vec.Vec{5}, "ann", 9)
	b := of(t, e, c, a)
	if got := b.Edits(); len(got) != 3 || got[0] != a || got[1] != c || got[2] != e {
		t.Errorf("P17.1: Edits: %+v", got)
	}
	list(t, "Contacts", b.Contacts())
}

// seen fails where Vec is another one, or Next does not go together with it.
func seen(t *testing.T, what string, b *book.Book, want vec.Vec) {
	t.Helper()
	if got := b.Vec(); got != want {
		t.Errorf("P17.1: Vec, %s: %v, not %v", what, got, want)
	}
	for dev := range 8 {
		if d, v := b.Next(dev); d != (api.Dot{Dev: dev, N: want[dev] + 1}) || v != want {
			t.Errorf("P17.1: Next of %d, %s: %v, %v", dev, what, d, v)
		}
	}
	for _, dev := range []int{-1, -2, -8, 8, 9, 255, 256, 1 << 32, -1 << 32, math.MaxInt, math.MinInt} {
		if d, v := b.Next(dev); d != (api.Dot{}) || v != (vec.Vec{}) {
			t.Errorf("R2: Next of %d, %s: %v, %v", dev, what, d, v)
		}
	}
}

func TestVecAndNextWithGaps(t *testing.T) {
	b := book.New()
	seen(t, "nothing", b, vec.Vec{})
	for _, step := range []struct {
		dev  int
		n    int64
		want vec.Vec
	}{
		{2, 2, vec.Vec{}},
		{2, 4, vec.Vec{}},
		{2, most, vec.Vec{}},
		{2, 1, vec.Vec{0, 0, 2}},
		{2, 6, vec.Vec{0, 0, 2}},
		{0, 3, vec.Vec{0, 0, 2}},
		{7, 1, vec.Vec{0, 0, 2, 0, 0, 0, 0, 1}},
		{2, 3, vec.Vec{0, 0, 4, 0, 0, 0, 0, 1}},
		{2, 5, vec.Vec{0, 0, 6, 0, 0, 0, 0, 1}},
		{3, 1, vec.Vec{0, 0, 6, 1, 0, 0, 0, 1}},
		{3, 3, vec.Vec{0, 0, 6, 1, 0, 0, 0, 1}},
		{0, 2, vec.Vec{0, 0, 6, 1, 0, 0, 0, 1}},
		{0, 1, vec.Vec{3, 0, 6, 1, 0, 0, 0, 1}},
		{2, most - 1, vec.Vec{3, 0, 6, 1, 0, 0, 0, 1}},
		{7, 2, vec.Vec{3, 0, 6, 1, 0, 0, 0, 2}},
	} {
		add(t, b, plain(step.dev, step.n), api.OK)
		seen(t, "a step", b, step.want)
	}
}

func TestVecOfEachDevice(t *testing.T) {
	for dev := range 8 {
		b := book.New()
		var want vec.Vec
		for n := range int64(70) {
			b.Add(plain(dev, n+1))
			want[dev] = n + 1
			seen(t, "one behind the other", b, want)
		}
		b = book.New()
		for n := int64(70); n > 1; n-- {
			b.Add(plain(dev, n))
			seen(t, "from the last one on", b, vec.Vec{})
		}
		b.Add(plain(dev, 1))
		want[dev] = 70
		seen(t, "from the last one on, all", b, want)
	}
}

// Kind 2 counts, and what an edit had seen does not.
func TestVecIsOfWhatIsThere(t *testing.T) {
	b := of(t, removes(0, 1, vec.Vec{}, "ann", 0), sets(0, 2, vec.Vec{9, 9, 9, 9, 9, 9, 9, 9}, "ann", "tel", "5", 0), removes(0, 3, vec.Vec{}, "bob", 0))
	seen(t, "of both Kinds", b, vec.Vec{3})
}

func TestVecAtTheLimit(t *testing.T) {
	b := book.New()
	for n := range int64(500) {
		b.Add(plain(6, 500-n))
	}
	seen(t, "500 of one device", b, vec.Vec{0, 0, 0, 0, 0, 0, 500})
	seen(t, "500 of all devices", of(t, many(500)...), vec.Vec{63, 63, 63, 63, 62, 62, 62, 62})
}

// What Next tells makes an edit that may be, is not there, and ends all that is live of what it sets.
func TestNextMakesAnEdit(t *testing.T) {
	b := of(t, plain(0, 1), plain(1, 1), plain(1, 2), plain(4, 1))
	for dev := range 8 {
		d, v := b.Next(dev)
		e := sets(d.Dev, d.N, v, "ann", "tel", "new", 0)
		if e.Seen != v {
			t.Errorf("P17.1: Next of %d: %v, %v do not go together", dev, d, v)
		}
		add(t, b, e, api.OK)
		list(t, "All", b.All("ann", "tel"), "new")
	}
	seen(t, "behind them", b, vec.Vec{2, 3, 1, 1, 2, 1, 1, 1})
}
