package book_test

import (
	"fmt"
	"slices"
	"testing"

	"bandbox/api"
	"bandbox/book"
	"bandbox/op"
	"bandbox/vec"
)

func TestTheChaptersExample(t *testing.T) {
	b := of(t, sets(0, 1, vec.Vec{}, "ann", "tel", "5", 2), sets(1, 1, vec.Vec{}, "ann", "tel", "6", 1))
	list(t, "All of two that had not seen one another", b.All("ann", "tel"), "6", "5")
	list(t, "Contacts", b.Contacts(), "ann")
	list(t, "Fields", b.Fields("ann"), "tel")
	last(t, b, "ann", "tel", "5", true)
}

func TestNew(t *testing.T) {
	b := book.New()
	tells(t, "New", b)
	other := book.New()
	add(t, b, plain(0, 1), api.OK)
	tells(t, "another New", other)
	tells(t, "New behind it", book.New())
}

// add fails where Add answers something else, or a refused one, or one that is there, turns what is told.
func add(t *testing.T, b *book.Book, e op.Edit, want api.Errno) {
	t.Helper()
	before, count := told(b, names()...), len(b.Edits())
	if err := b.Add(e); err != want {
		t.Errorf("P17.1: Add of %+v where there are %d: %d, not %d", e, count, err, want)
	}
	if after := told(b, names()...); want != api.OK && after != before {
		t.Errorf("R3: Add of %+v was refused, and %s", e, unlike(after, before))
	}
	if want == api.OK && !slices.Contains(b.Edits(), e) {
		t.Errorf("P17.1: Add of %+v: it is not there", e)
	}
}

// again fails where an edit that is there is refused, or adds anything.
func again(t *testing.T, b *book.Book, e op.Edit) {
	t.Helper()
	before := told(b, names()...)
	add(t, b, e, api.OK)
	if after := told(b, names()...); after != before {
		t.Errorf("P17.1: Add of %+v that is there: %s", e, unlike(after, before))
	}
}

func TestAddOfOneThatMayNotBe(t *testing.T) {
	empty, full := book.New(), of(t, plain(2, 1), plain(2, 4), plain(1, 4))
	for _, e := range none() {
		if op.Good(e) {
			t.Errorf("the test reckons %+v wrongly", e)
		}
		add(t, empty, e, api.EARG)
		add(t, full, e, api.EARG)
	}
	tells(t, "a book that took none", empty)
	tells(t, "a book that took no other", full, plain(2, 1), plain(2, 4), plain(1, 4))
}

func TestAddOfOneThatIsThere(t *testing.T) {
	all := []op.Edit{plain(0, 1), plain(0, 2), removes(3, 1, vec.Vec{2}, "ann", 0), plain(7, most)}
	b := of(t, all...)
	for range 3 {
		for _, e := range all {
			again(t, b, e)
		}
	}
	tells(t, "behind all of them again", b, all...)
}

func TestAddOfAnotherOneOfItsDot(t *testing.T) {
	for dev := range 8 {
		for _, n := range []int64{1, 2, 77, most} {
			e := plain(dev, n)
			b := of(t, e)
			for _, x := range others(e) {
				if !op.Good(x) || x == e || x.Dot != e.Dot {
					t.Fatalf("the test reckons %+v wrongly", x)
				}
				add(t, b, x, api.EFORK)
				add(t, of(t, x), e, api.EFORK)
			}
			again(t, b, e)
			tells(t, "behind what was refused", b, e)
		}
	}
	e := removes(4, 2, vec.Vec{1}, "ann", 3)
	b := of(t, e)
	for _, change := range []func(e *op.Edit){
		func(e *op.Edit) { e.Contact = "bob" },
		func(e *op.Edit) { e.Time = 0 },
		func(e *op.Edit) { e.Seen[0] = 0 },
		func(e *op.Edit) { e.Seen[7] = 1 },
		func(e *op.Edit) { e.Kind, e.Field = 1, "tel" },
	} {
		add(t, b, with(e, change), api.EFORK)
	}
	tells(t, "of one of Kind 2", b, e)
}

// A Dot that is another one is no fork, however alike the edits are.
func TestAddOfAnotherDot(t *testing.T) {
	var all []op.Edit
	b := book.New()
	for _, n := range []int64{3, 1, most, 2, most - 1} {
		for dev := 7; dev >= 0; dev-- {
			e := sets(dev, n, vec.Vec{}, "ann", "tel", "5", 1)
			add(t, b, e, api.OK)
			all = append(all, e)
		}
	}
	tells(t, "of five Dots of each device", b, all...)
}

// many are edits of all devices, n in all, of several contacts and fields.
func many(n int) []op.Edit {
	var out []op.Edit
	for i := range n {
		out = append(out, sets(i%8, int64(i/8)+1, vec.Vec{}, "c"+fmt.Sprint(i%17), "f"+fmt.Sprint(i%5), fmt.Sprint(i), int64(i*i%101)))
	}
	return out
}

func TestAddAtTheLimit(t *testing.T) {
	if api.MaxOps != 500 {
		t.Fatalf("MaxOps: %d", api.MaxOps)
	}
	all := many(500)
	b := of(t, all[:499]...)
	fresh := sets(7, 900, vec.Vec{}, "ann", "tel", "5", 1)
	bad := with(fresh, func(e *op.Edit) { e.Kind = 0 })
	fork := with(all[100], func(e *op.Edit) { e.Time++ })
	again(t, b, all[3])
	add(t, b, fork, api.EFORK)
	add(t, b, bad, api.EARG)
	tells(t, "one below the limit", b, all[:499]...)
	add(t, b, all[499], api.OK)
	for range 2 {
		for _, e := range []op.Edit{fresh, plain(0, most), plain(6, 64), removes(7, 70, vec.Vec{}, "c1", 0)} {
			add(t, b, e, api.ELIMIT)
		}
		add(t, b, fork, api.EFORK)
		add(t, b, with(all[499], func(e *op.Edit) { e.Value = "" }), api.EFORK)
		add(t, b, bad, api.EARG)
		add(t, b, with(all[100], func(e *op.Edit) { e.Kind = 0 }), api.EARG)
		for _, i := range []int{0, 1, 250, 498, 499} {
			again(t, b, all[i])
		}
	}
	tells(t, "at the limit", b, all...)
}

// What is refused at the limit counts: also where none of those that are there is live.
func TestTheLimitCountsAllThatAreThere(t *testing.T) {
	b := book.New()
	var all []op.Edit
	for n := range int64(500) {
		all = append(all, removes(5, n+1, vec.Vec{}, "ann", n))
	}
	for i, e := range all {
		if err := b.Add(e); err != api.OK {
			t.Fatalf("P17.1: Add of number %d: %d", i+1, err)
		}
	}
	add(t, b, plain(0, 1), api.ELIMIT)
	add(t, b, removes(5, 501, vec.Vec{}, "ann", 0), api.ELIMIT)
	again(t, b, all[0])
	again(t, b, all[499])
	tells(t, "500 of Kind 2", b, all...)
}

func TestOfOneOfEachDeviceInAnyOrder(t *testing.T) {
	var all []op.Edit
	for dev := range 8 {
		for _, n := range []int64{1, 2, 4, 500, most - 1, most} {
			all = append(all, sets(dev, n, vec.Vec{}, fmt.Sprint("c", n%3), "f", fmt.Sprint(dev, n), n%5))
		}
	}
	d := dice(17)
	for range 20 {
		b := book.New()
		for _, e := range d.shuffled(all) {
			if err := b.Add(e); err != api.OK {
				t.Fatalf("P17.1: Add of %+v: %d", e, err)
			}
		}
		tells(t, "edits of all devices", b, all...)
	}
}
