package book_test

import (
	"testing"

	"bandbox/api"
	"bandbox/book"
	"bandbox/op"
	"bandbox/vec"
)

// merge fails where Merge answers something else, turns the other book, or, where it is refused, its own.
func merge(t *testing.T, what string, b, c *book.Book, want api.Errno) {
	t.Helper()
	mine, yours := told(b, names()...), told(c, names()...)
	if err := b.Merge(c); err != want {
		t.Errorf("P17.1: Merge, %s: %d, not %d", what, err, want)
	}
	if after := told(b, names()...); want != api.OK && after != mine {
		t.Errorf("R3: Merge, %s, was refused, and %s", what, unlike(after, mine))
	}
	if after := told(c, names()...); b != c && after != yours {
		t.Errorf("R4: Merge, %s, turned the other book: %s", what, unlike(after, yours))
	}
}

func history() []op.Edit {
	return []op.Edit{
		sets(0, 1, vec.Vec{}, "ann", "tel", "1", 5),
		sets(1, 1, vec.Vec{}, "ann", "tel", "2", 3),
		sets(0, 2, vec.Vec{1}, "ann", "mail", "3", 6),
		sets(2, 1, vec.Vec{1, 1}, "ann", "tel", "4", 1),
		removes(1, 2, vec.Vec{2, 1}, "ann", 8),
		sets(7, 1, vec.Vec{1, 1}, "ann", "tel", "", 1),
		sets(0, 3, vec.Vec{2, 2}, "bob", "tel", "5", 0),
		sets(3, 5, vec.Vec{2, 2}, "bob", "tel", "6", 2),
	}
}

func TestMerge(t *testing.T) {
	h := history()
	for _, parts := range []struct {
		what        string
		mine, yours []op.Edit
	}{
		{"nothing and nothing", nil, nil},
		{"nothing into something", h, nil},
		{"something into nothing", nil, h},
		{"the same", h, h},
		{"a part of it", h, h[2:5]},
		{"it has a part", h[3:4], h},
		{"all of it lies elsewhere", h[:4], h[4:]},
		{"all of it lies elsewhere, ahead", h[4:], h[:4]},
		{"each lacks some", h[:6], h[3:]},
		{"each lacks some, by turns", []op.Edit{h[0], h[2], h[4], h[6]}, []op.Edit{h[1], h[3], h[4], h[5], h[7]}},
		{"one that ends what it has", h[:1], h[3:4]},
		{"what its own one ends", h[4:5], h[:3]},
	} {
		b, c := of(t, parts.mine...), of(t, parts.yours...)
		merge(t, parts.what, b, c, api.OK)
		var union []op.Edit
		for _, e := range h {
			if has(parts.mine, e) || has(parts.yours, e) {
				union = append(union, e)
			}
		}
		tells(t, "Merge, "+parts.what, b, union...)
		merge(t, parts.what+", again", b, c, api.OK)
		tells(t, "Merge again, "+parts.what, b, union...)
		merge(t, parts.what+", the other way", c, b, api.OK)
		if !book.Same(b, c) || !book.Same(c, b) {
			t.Errorf("P17.1: Merge both ways, %s: not the Same", parts.what)
		}
	}
}

func has(list []op.Edit, e op.Edit) bool {
	for _, x := range list {
		if x == e {
			return true
		}
	}
	return false
}

func TestMergeWithItself(t *testing.T) {
	for n := range len(history()) + 1 {
		h := history()[:n]
		b := of(t, h...)
		merge(t, "with itself", b, b, api.OK)
		tells(t, "Merge with itself", b, h...)
		merge(t, "with its Copy", b, b.Copy(), api.OK)
		tells(t, "Merge with its Copy", b, h...)
	}
	full := of(t, many(500)...)
	merge(t, "a full one with itself", full, full, api.OK)
	merge(t, "a full one with its Copy", full, full.Copy(), api.OK)
	merge(t, "a full one with nothing", full, book.New(), api.OK)
	tells(t, "Merge of a full one", full, many(500)...)
}

// The fork comes first, in the midst, or last of all that are Added; what is new stands about it.
func TestMergeOfAFork(t *testing.T) {
	yours := history()
	for _, at := range []api.Dot{{Dev: 0, N: 1}, {Dev: 1, N: 1}, {Dev: 2, N: 1}, {Dev: 7, N: 1}} {
		for _, e := range yours {
			if e.Dot != at {
				continue
			}
			for _, x := range others(e) {
				mine := []op.Edit{x, sets(5, 1, vec.Vec{}, "zoe", "tel", "9", 9)}
				b := of(t, mine...)
				merge(t, "a fork", b, of(t, yours...), api.EFORK)
				tells(t, "Merge of a fork", b, mine...)
				merge(t, "a fork, the other way", of(t, yours...), b, api.EFORK)
				merge(t, "a fork of all that there is", of(t, x), of(t, e), api.EFORK)
				merge(t, "what is no fork, behind it", b, of(t, sets(6, 1, vec.Vec{}, "zoe", "tel", "8", 9)), api.OK)
			}
		}
	}
}

func TestMergeOfMoreThanMayBe(t *testing.T) {
	all := many(500)
	fresh := sets(7, 900, vec.Vec{}, "ann", "tel", "5", 1)
	merge(t, "just as many as may be", of(t, all[:250]...), of(t, all[250:]...), api.OK)
	merge(t, "some are in both", of(t, all[:300]...), of(t, all[200:]...), api.OK)
	merge(t, "500 into nothing", book.New(), of(t, all...), api.OK)
	merge(t, "the last one", of(t, all[1:]...), of(t, all[:1]...), api.OK)
	merge(t, "one too many", of(t, all...), of(t, fresh), api.ELIMIT)
	merge(t, "one too many, beside some that are there", of(t, all...), of(t, plus(all[100:200], fresh)...), api.ELIMIT)
	merge(t, "one too many, into one", of(t, fresh), of(t, all...), api.ELIMIT)
	merge(t, "the last of two is too many", of(t, all[:499]...), of(t, all[499], fresh), api.ELIMIT)
	b := of(t, all[:251]...)
	merge(t, "251 and 250", b, of(t, plus(all[251:], fresh)...), api.ELIMIT)
	tells(t, "Merge of 251 and 250", b, all[:251]...)
	merge(t, "251 and 249", b, of(t, all[251:]...), api.OK)
	tells(t, "Merge of 251 and 249", b, all...)
}

// They are Added as Edits tells them: the first that is refused tells the error.
func TestMergeTellsTheFirstError(t *testing.T) {
	all := many(500)
	low, high := all[0], all[495] // of device 0 and 7: all that is new stands between
	lowFork, highFork := with(low, func(e *op.Edit) { e.Time++ }), with(high, func(e *op.Edit) { e.Time++ })
	if high.Dot.Dev != 7 {
		t.Fatalf("the test reckons %+v wrongly", high)
	}
	fresh := plain(3, 700)
	merge(t, "a fork ahead of one too many", of(t, all...), of(t, lowFork, fresh), api.EFORK)
	merge(t, "a fork behind one too many", of(t, all...), of(t, fresh, highFork), api.ELIMIT)
	merge(t, "a fork ahead and behind", of(t, all...), of(t, lowFork, fresh, highFork), api.EFORK)
	merge(t, "a fork of a lower number, ahead", of(t, all...), of(t, with(all[3], func(e *op.Edit) { e.Time++ }), fresh), api.EFORK)
	merge(t, "a fork of a greater number, behind", of(t, all...), of(t, with(all[3], func(e *op.Edit) { e.Time++ }), with(fresh, func(e *op.Edit) { *e = plain(2, 700) })), api.ELIMIT)
	merge(t, "a fork where there is room for the one ahead", of(t, all[:499]...), of(t, fresh, highFork), api.EFORK)
	merge(t, "a fork where there is no room for the second one ahead", of(t, all[:499]...), of(t, fresh, plain(4, 700), highFork), api.ELIMIT)
}

func TestCopy(t *testing.T) {
	for n := range len(history()) + 1 {
		h := history()[:n]
		b := of(t, h...)
		c := b.Copy()
		if b == c {
			t.Fatalf("P17.1: Copy: the same one")
		}
		tells(t, "Copy", c, h...)
		tells(t, "what was copied", b, h...)
		if !book.Same(b, c) || !book.Same(c, b) || !book.Same(c, c.Copy()) {
			t.Errorf("P17.1: Copy of %d is not the Same", n)
		}
	}
	full := of(t, many(500)...)
	c := full.Copy()
	tells(t, "Copy of a full one", c, many(500)...)
	add(t, c, plain(0, 900), api.ELIMIT)
}

// same fails where Same tells something else, in either order.
func same(t *testing.T, what string, a, b *book.Book, want bool) {
	t.Helper()
	if book.Same(a, b) != want || book.Same(b, a) != want {
		t.Errorf("P17.1: Same, %s: %v, and %v", what, book.Same(a, b), book.Same(b, a))
	}
}

func TestSame(t *testing.T) {
	h := history()
	same(t, "nothing", book.New(), book.New(), true)
	one := of(t, h...)
	same(t, "itself", one, one, true)
	d := dice(4)
	for range 30 {
		same(t, "another order, some again", one, of(t, d.shuffled(h)...), true)
	}
	refused := of(t, h...)
	refused.Add(op.Edit{})
	refused.Add(with(h[0], func(e *op.Edit) { e.Time++ }))
	same(t, "one that refused some", one, refused, true)
	for i := range h {
		same(t, "those ahead of one", one, of(t, h[:i]...), false)
		same(t, "one less", one, of(t, plus(h[:i], h[i+1:]...)...), false)
		same(t, "one more", one, of(t, plus(h, plain(5, int64(i)+1))...), false)
		if h[i].Kind != 1 {
			continue
		}
		for _, x := range others(h[i]) {
			other := history()
			other[i] = x
			same(t, "one thing of one edit", one, of(t, other...), false)
		}
	}
	same(t, "as many, another Dot", of(t, plain(0, 1)), of(t, sets(1, 1, vec.Vec{}, "ann", "tel", "0 1", 7)), false)
	same(t, "as many, another number", of(t, plain(0, 1)), of(t, sets(0, 2, vec.Vec{}, "ann", "tel", "0 1", 7)), false)
	same(t, "another Time of a removal", of(t, removes(0, 1, vec.Vec{}, "ann", 1)), of(t, removes(0, 1, vec.Vec{}, "ann", 2)), false)
	full := many(500)
	same(t, "full ones", of(t, full...), of(t, d.shuffled(full)...), true)
	same(t, "one of 500 lacks", of(t, full...), of(t, full[1:]...), false)
	last := many(500)
	last[499].Value += "x"
	same(t, "the last of 500 is another one", of(t, full...), of(t, last...), false)
}

// Two that tell the same of all contacts need not have the same edits.
func TestSameIsOfTheEdits(t *testing.T) {
	a := of(t, sets(0, 1, vec.Vec{}, "ann", "tel", "5", 1))
	b := of(t, sets(1, 1, vec.Vec{}, "ann", "tel", "5", 1))
	same(t, "alike in what is live", a, b, false)
	same(t, "alike in what is live: nothing", book.New(), of(t, removes(0, 1, vec.Vec{}, "ann", 1)), false)
}
