package book_test

import (
	"fmt"
	"slices"
	"testing"

	"bandbox/api"
	"bandbox/book"
	"bandbox/op"
	"bandbox/vec"
)

// orders calls f with each order of edits.
func orders(edits []op.Edit, f func(edits []op.Edit)) {
	var place func(n int)
	place = func(n int) {
		if n == len(edits) {
			f(edits)
			return
		}
		for i := n; i < len(edits); i++ {
			edits[n], edits[i] = edits[i], edits[n]
			place(n + 1)
			edits[n], edits[i] = edits[i], edits[n]
		}
	}
	place(0)
}

func TestEachOrder(t *testing.T) {
	h := history()[:6]
	want := told(written(t, h...))
	runs := 0
	orders(slices.Clone(h), func(edits []op.Edit) {
		runs++
		if got := told(of(t, edits...)); got != want {
			t.Fatalf("T4: in the order %+v %s", edits, unlike(got, want))
		}
	})
	if runs != 720 {
		t.Errorf("the test is no test: %d orders", runs)
	}
}

// lives is what devices do that hear of one another now and then: all their edits.
func (d *dice) lives(steps int) []op.Edit {
	var papers [8]paper
	var out []op.Edit
	devs := 1 + d.draw(8)
	for i := range steps {
		dev := d.draw(devs)
		if d.draw(3) == 0 {
			for _, e := range papers[d.draw(devs)].Edits() {
				papers[dev].Add(e)
			}
		}
		dot, seen := papers[dev].Next(dev)
		contact, field, time := []string{"a", "ab", "b"}[d.draw(3)], []string{"f", "fg"}[d.draw(2)], int64(d.draw(4))
		e := sets(dot.Dev, dot.N, seen, contact, field, fmt.Sprint(i%5), time)
		if d.draw(4) == 0 {
			e = removes(dot.Dev, dot.N, seen, contact, time)
		}
		papers[dev].Add(e)
		out = append(out, e)
	}
	return out
}

// whatever is any edit, of Dots that are often the same, and with gaps; some may not be.
func (d *dice) whatever() op.Edit {
	var seen vec.Vec
	for i := range seen {
		seen[i] = int64(max(0, d.draw(6)-2))
	}
	dev, n := d.draw(8), int64(1+d.draw(5))
	if d.draw(9) == 0 {
		n = most - n
		seen[d.draw(8)] = n - int64(d.draw(3))
	}
	contact, field := []string{"a", "ab", "~"}[d.draw(3)], []string{"f", "fg"}[d.draw(2)]
	e := sets(dev, n, seen, contact, field, "xyz"[:d.draw(3)], int64(d.draw(3)))
	if d.draw(3) == 0 {
		e = removes(dev, n, seen, contact, int64(d.draw(3)))
	}
	switch d.draw(20) {
	case 0:
		e.Seen[dev]++
	case 1:
		e.Kind = 3 - e.Kind
	case 2:
		e.Time = -1
	}
	return e
}

// The same edits in many orders, some of them again: after each the book tells what paper does, and in the end all books
// are one.
func TestWhateverTheOrder(t *testing.T) {
	for seed := range 40 {
		d := dice(seed)
		h := d.lives(4 + d.draw(20))
		last := of(t, h...)
		for range 5 {
			b, p := book.New(), &paper{}
			for _, e := range d.shuffled(h) {
				if got, want := b.Add(e), p.Add(e); got != want || got != api.OK {
					t.Fatalf("P17.1: seed %d: Add of %+v: %d, not %d", seed, e, got, want)
				}
				if got, want := told(b, names()...), told(p, names()...); got != want {
					t.Fatalf("P17.1: seed %d: behind %+v %s", seed, e, unlike(got, want))
				}
			}
			if !book.Same(b, last) || told(b) != told(last) {
				t.Fatalf("T4: seed %d: %s", seed, unlike(told(b), told(last)))
			}
		}
	}
}

// Any edits, of which many are refused.
func TestWhateverIsAdded(t *testing.T) {
	counts := map[api.Errno]int{}
	for seed := range 40 {
		d := dice(1000 + seed)
		b, p := book.New(), &paper{}
		for range 60 {
			e := d.whatever()
			got, want := b.Add(e), p.Add(e)
			counts[got]++
			if got != want {
				t.Fatalf("P17.1: seed %d: Add of %+v: %d, not %d", seed, e, got, want)
			}
			if got, want := told(b), told(p); got != want {
				t.Fatalf("P17.1: seed %d: behind %+v %s", seed, e, unlike(got, want))
			}
		}
	}
	if counts[api.OK] < 500 || counts[api.EFORK] < 500 || counts[api.EARG] < 100 {
		t.Errorf("the test is no test: %v", counts)
	}
}

// Books that add, are merged and copied: each tells what its own paper does.
func TestBooksAmongBooks(t *testing.T) {
	counts := map[api.Errno]int{}
	for seed := range 30 {
		d := dice(2000 + seed)
		h := d.lives(30)
		var books [4]*book.Book
		var papers [4]*paper
		for i := range books {
			books[i], papers[i] = book.New(), &paper{}
		}
		for range 60 {
			i, j := d.draw(4), d.draw(4)
			switch d.draw(6) {
			case 0:
				books[i], papers[i] = books[j].Copy(), written(t, papers[j].Edits()...)
			case 1, 2:
				got, want := books[i].Merge(books[j]), papers[i].merge(papers[j])
				counts[got]++
				if got != want {
					t.Fatalf("P17.1: seed %d: Merge: %d, not %d", seed, got, want)
				}
			default:
				e := h[d.draw(len(h))]
				if d.draw(12) == 0 {
					e.Time++
				}
				if got, want := books[i].Add(e), papers[i].Add(e); got != want {
					t.Fatalf("P17.1: seed %d: Add of %+v: %d, not %d", seed, e, got, want)
				}
			}
			for k := range books {
				if got, want := told(books[k]), told(papers[k]); got != want {
					t.Fatalf("P17.1: seed %d: of book %d %s", seed, k, unlike(got, want))
				}
				if got, want := book.Same(books[k], books[j]), told(papers[k]) == told(papers[j]); got != want {
					t.Fatalf("P17.1: seed %d: Same of %d and %d: %v", seed, k, j, got)
				}
			}
		}
	}
	if counts[api.OK] < 100 || counts[api.EFORK] < 20 {
		t.Errorf("the test is no test: %v", counts)
	}
}

func (p *paper) merge(c *paper) api.Errno {
	both := paper{edits: map[api.Dot]op.Edit{}}
	for d, e := range p.edits {
		both.edits[d] = e
	}
	for _, e := range c.Edits() {
		if err := both.Add(e); err != api.OK {
			return err
		}
	}
	*p = both
	return api.OK
}

// More edits than there may be, in any order: what is there when it is full stays.
func TestPastTheLimitInAnyOrder(t *testing.T) {
	for seed := range 3 {
		d := dice(3000 + seed)
		h := d.shuffled(d.lives(560))
		b, p := book.New(), &paper{}
		counts := map[api.Errno]int{}
		for i, e := range h {
			got, want := b.Add(e), p.Add(e)
			counts[got]++
			if got != want {
				t.Fatalf("P17.1: seed %d: Add of number %d: %d, not %d", seed, i, got, want)
			}
		}
		if got, want := told(b), told(p); got != want {
			t.Fatalf("P17.1: seed %d: %s", seed, unlike(got, want))
		}
		if len(b.Edits()) != 500 || counts[api.ELIMIT] == 0 {
			t.Errorf("P17.1: seed %d: %d edits, %v", seed, len(b.Edits()), counts)
		}
	}
}
