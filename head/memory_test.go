package head_test

import (
	"bytes"
	"testing"

	"bandbox/api"
	"bandbox/chain"
	"bandbox/head"
)

// whole is a list of bytes at the front of a longer row: it has spare room behind it, and the row shows that, too.
func whole(b []byte) (row, part []byte) {
	row = append(bytes.Clone(b), bytes.Repeat([]byte{0x5a}, 500)...)
	return row, row[:len(b)]
}

// scribble writes into a list, its spare room too, and puts more behind it.
func scribble(b []byte) {
	_ = append(b, "more and more"...)
	b = b[:cap(b)]
	for i := range b {
		b[i] = 0xee
	}
}

func TestNothingHandedInIsChanged(t *testing.T) {
	for i, h := range all() {
		if i%5 > 0 {
			continue
		}
		row, b := whole(told(h))
		before := bytes.Clone(row)
		head.Get(b)
		head.Get(b[:len(b)/2])
		head.Get(row)
		if !bytes.Equal(row, before) {
			t.Errorf("R4: Get changed what was handed in: of %v", h)
		}
		x, y := h, h
		head.Make(seed(1), x.Dev, x.Vec, x.Tips)
		head.Good(x)
		head.Check(public(1), x)
		head.Put(x)
		head.Cmp(x, y)
		head.Cmp(one(), x)
		head.Fits(x, 2, chain.New(2, public(1)))
		if x != h || y != h {
			t.Errorf("R4: what was handed in was changed: %v, not %v", x, h)
		}
	}
}

func TestWhatGetToldIsItsOwn(t *testing.T) {
	for i, h := range all() {
		if !mayBe(h) || i%3 > 0 {
			continue
		}
		row, b := whole(told(h))
		x, e := head.Get(b)
		before := x
		scribble(row)
		if e != api.OK || x != h {
			t.Errorf("R4: writing turned what Get told: %v, not %v", x, h)
		}
		row, b = whole(told(h))
		again, e := head.Get(b)
		again.Vec[0], again.Tips[0], again.Sig = 77, api.Word{77}, api.Sig{77}
		if e != api.OK || x != before || !bytes.Equal(b, told(h)) {
			t.Errorf("R4: writing into what Get told turned something else: of %v", h)
		}
		scribble(row)
	}
}

func TestWhatPutToldIsItsOwn(t *testing.T) {
	for i, h := range all() {
		if i%3 > 0 {
			continue
		}
		x := h
		first, second := head.Put(x), head.Put(x)
		want := bytes.Clone(second)
		scribble(first)
		if !bytes.Equal(second, want) || x != h {
			t.Errorf("R4: writing into what Put told turned something else: of %v", h)
		}
		x.Dev, x.Vec[3], x.Tips[3], x.Sig = 9, 9, api.Word{9}, api.Sig{9}
		if !bytes.Equal(second, want) {
			t.Errorf("R4: writing into what was handed in turned what Put told: of %v", h)
		}
		if again := head.Put(h); !bytes.Equal(again, want) {
			t.Errorf("R5: Put of %v: %d bytes, then %d others", h, len(want), len(again))
		}
	}
}

func TestWhatMakeToldIsItsOwn(t *testing.T) {
	h := one()
	v, tips := h.Vec, h.Tips
	x, e := head.Make(seed(1), h.Dev, v, tips)
	y, _ := head.Make(seed(1), h.Dev, v, tips)
	v[0], tips[0] = 9, api.Word{9}
	y.Dev, y.Vec[1], y.Tips[2], y.Sig = 9, 9, api.Word{9}, api.Sig{9}
	if e != api.OK || x != h {
		t.Errorf("R4: writing turned what Make told: %v, not %v", x, h)
	}
	if again, e := head.Make(seed(1), h.Dev, h.Vec, h.Tips); e != api.OK || again != h {
		t.Errorf("R5: Make: %v, not %v", again, h)
	}
}

// A chain that Fits was given is not kept: what it is told later counts, and what another one is told does not.
func TestFitsKeepsNoChain(t *testing.T) {
	c := chained(t, 1, 3, 2)
	h := of(3, 3, api.Word{1})
	fits(t, "above Len", h, 3, c, true)
	other := chained(t, 1, 3, 3)
	fits(t, "another chain that is longer", h, 3, other, false)
	fits(t, "above Len, again", h, 3, c, true)
	r, e := chain.Make(seed(1), 3, 3, c.Tip(), []byte("third"))
	if e != api.OK || c.Add(r) != api.OK {
		t.Fatalf("the test makes no third record: %d", e)
	}
	fits(t, "there now", h, 3, c, false)
	fits(t, "there now, its sum", of(3, 3, chain.Sum(r)), 3, c, true)
	fits(t, "its sum with another chain", of(3, 3, chain.Sum(r)), 3, other, false)
}

// nil and an empty list are one.
func TestNilAndAnEmptyListAreOne(t *testing.T) {
	_, e := head.Get(nil)
	_, f := head.Get([]byte{})
	_, g := head.Get(make([]byte, 0, 400))
	if e != f || f != g || e != api.EFORM {
		t.Errorf("R4: Get: %d of nil, %d and %d of an empty list", e, f, g)
	}
}

// What a call answers hangs on its arguments alone: the same again, whatever was asked between.
func TestTheSameAgain(t *testing.T) {
	l := all()
	c := chained(t, 1, 3, 3)
	for i, h := range l {
		if i%4 > 0 {
			continue
		}
		good, checked, put, cmp, fit := head.Good(h), head.Check(public(1), h), head.Put(h), head.Cmp(h, one()), head.Fits(h, 3, c)
		got, e := head.Get(put)
		made, f := head.Make(seed(2), h.Dev, h.Vec, h.Tips)
		between := l[(i*7+1)%len(l)]
		head.Good(between)
		head.Check(public(2), between)
		head.Get(head.Put(between))
		head.Get([]byte("what is no head"))
		head.Cmp(between, h)
		head.Fits(between, 3, c)
		head.Fits(between, 9, chain.New(9, public(2)))
		again, g := head.Get(put)
		remade, k := head.Make(seed(2), h.Dev, h.Vec, h.Tips)
		if head.Good(h) != good || head.Check(public(1), h) != checked || !bytes.Equal(head.Put(h), put) || head.Cmp(h, one()) != cmp || head.Fits(h, 3, c) != fit {
			t.Errorf("R5: of %v something else is told the second time", h)
		}
		if got != again || e != g || made != remade || f != k {
			t.Errorf("R5: Get, Make of %v tell something else the second time", h)
		}
	}
}
