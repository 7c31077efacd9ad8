package book_test

import (
	"slices"
	"testing"

	"bandbox/api"
	"bandbox/book"
	"bandbox/op"
	"bandbox/vec"
)

// scribble writes into a list, its spare room too, and puts more behind it.
func scribble[T any](list []T, what T) {
	_ = append(list, what, what, what)
	list = list[:cap(list)]
	for i := range list {
		list[i] = what
	}
}

// answers are all lists that a book tells of ann.
func answers(b *book.Book) [][]string {
	return [][]string{b.Contacts(), b.Fields("ann"), b.All("ann", "tel"), b.All("ann", "mail"), b.All("no", "one"), b.Fields("no one")}
}

func TestAnswersMayBeWrittenInto(t *testing.T) {
	for _, edits := range [][]op.Edit{nil, history()[:1], history()[:4], history(), many(499), many(500)} {
		b := of(t, edits...)
		before := told(b, names()...)
		one, two := answers(b), answers(b)
		kept := answers(b)
		for i := range one {
			scribble(one[i], "scribbled")
			for j := range two {
				if j > i && !slices.Equal(one[j], kept[j]) || !slices.Equal(two[j], kept[j]) {
					t.Errorf("R4: writing into answer %d turned answer %d", i, j)
				}
			}
		}
		first, second := b.Edits(), b.Edits()
		scribble(first, op.Edit{Value: "scribbled"})
		if !book.Same(of(t, second...), of(t, edits...)) {
			t.Errorf("R4: writing into an answer of Edits turned another one")
		}
		if after := told(b, names()...); after != before {
			t.Errorf("R4: writing into answers turned a book: %s", unlike(after, before))
		}
		scribble(second, op.Edit{})
		more := sets(4, 99, vec.Vec{}, "ann", "tel", "5", 0)
		if len(edits) == 500 {
			add(t, b, more, api.ELIMIT)
			continue
		}
		add(t, b, more, api.OK)
		tells(t, "Add behind writing into answers", b, plus(edits, more)...)
	}
}

// What was answered ahead of an Add or a Merge stays as it was.
func TestAnswersStay(t *testing.T) {
	b := of(t, history()[:3]...)
	edits, contacts, fields, all := b.Edits(), b.Contacts(), b.Fields("ann"), b.All("ann", "tel")
	kept := slices.Clone(edits)
	b.Add(sets(0, 3, vec.Vec{9, 9}, "aaa", "a", "a", 0))
	b.Add(removes(5, 1, vec.Vec{9, 9}, "ann", 0))
	b.Merge(of(t, plain(6, 3), plain(0, 77)))
	if !slices.Equal(edits, kept) {
		t.Errorf("R4: an answer of Edits turned: %+v", edits)
	}
	list(t, "Contacts ahead of it", contacts, "ann")
	list(t, "Fields ahead of it", fields, "mail", "tel")
	list(t, "All ahead of it", all, "2", "1")
	list(t, "Contacts behind it", b.Contacts(), "aaa", "ann")
}

// What is done to a copy, or to what it was made of, does not turn the other one: at any room that a list may have.
func TestACopyIsAnotherOne(t *testing.T) {
	for n := range 20 {
		h := many(n)
		b := of(t, h...)
		c := b.Copy()
		second := c.Copy()
		mine, yours := sets(3, 50, vec.Vec{}, "mine", "f", "1", 0), sets(3, 51, vec.Vec{}, "yours", "f", "2", 0)
		add(t, b, mine, api.OK)
		tells(t, "a copy, when more was added to its own", c, h...)
		add(t, c, yours, api.OK)
		tells(t, "one that was copied, when more was added to the copy", b, plus(h, mine)...)
		tells(t, "the copy", c, plus(h, yours)...)
		tells(t, "the copy's copy", second, h...)
		front := sets(0, 40, vec.Vec{}, "front", "f", "3", 0)
		add(t, second, front, api.OK)
		add(t, second, removes(0, 41, vec.Vec{}, "front", 0), api.OK)
		merge(t, "all of them", second, b, api.OK)
		tells(t, "the copy behind it", c, plus(h, yours)...)
		tells(t, "what was merged", b, plus(h, mine)...)
	}
}

// Two books that were merged go on by themselves.
func TestAMergedBookIsAnotherOne(t *testing.T) {
	for n := range 20 {
		h := many(n)
		for _, begin := range [][]op.Edit{nil, h[:n/2], h} {
			b, c := of(t, begin...), of(t, h...)
			merge(t, "one into the other", b, c, api.OK)
			mine, yours := sets(0, 50, vec.Vec{}, "mine", "f", "1", 0), sets(0, 50, vec.Vec{}, "yours", "f", "2", 0)
			add(t, b, mine, api.OK)
			tells(t, "what was merged", c, h...)
			add(t, c, yours, api.OK)
			tells(t, "what it was merged into", b, plus(h, mine)...)
			merge(t, "what are unlike now", b, c, api.EFORK)
			merge(t, "what are unlike now, the other way", c, b, api.EFORK)
			tells(t, "what it was merged into, behind a fork", b, plus(h, mine)...)
			tells(t, "what was merged, behind a fork", c, plus(h, yours)...)
		}
	}
}

// What is told hangs on the book alone: the same again, whatever was asked and refused between.
func TestTheSameAgain(t *testing.T) {
	b := of(t, history()...)
	before := told(b, names()...)
	other := of(t, many(500)...)
	for _, e := range none() {
		b.Add(e)
		other.Add(e)
	}
	b.Merge(other)
	other.Merge(b)
	b.Merge(of(t, with(history()[0], func(e *op.Edit) { e.Value = "another" })))
	book.Same(b, other)
	b.Copy().Add(plain(4, 1))
	b.Next(3)
	for range 3 {
		if got := told(b, names()...); got != before {
			t.Errorf("R5: %s", unlike(got, before))
		}
	}
}

// R2: beside false, and of a dev that is none, all is zero; of what is not there lists have nothing.
func TestNothingBesideNothing(t *testing.T) {
	for _, b := range []*book.Book{book.New(), of(t, history()...), of(t, removes(0, 1, vec.Vec{}, "ann", 1)), of(t, sets(0, 1, vec.Vec{}, "ann", "tel", "5", 1), removes(0, 2, vec.Vec{}, "ann", 1))} {
		for _, name := range []string{"", "no one", "\xff"} {
			if value, ok := b.Value(name, "tel"); ok || value != "" {
				t.Errorf("R2: Value of what is not there: %q, %v", value, ok)
			}
			if value, ok := b.Value("ann", name); ok || value != "" {
				t.Errorf("R2: Value of a field that is not there: %q, %v", value, ok)
			}
			if len(b.Fields(name)) != 0 || len(b.All(name, name)) != 0 {
				t.Errorf("R2: lists of what is not there: %q, %q", b.Fields(name), b.All(name, name))
			}
		}
		for _, dev := range []int{-1, 8} {
			if d, v := b.Next(dev); d != (api.Dot{}) || v != (vec.Vec{}) {
				t.Errorf("R2: Next of %d: %v, %v", dev, d, v)
			}
		}
	}
}
