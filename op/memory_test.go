package op_test

import (
	"bytes"
	"strings"
	"testing"

	"bandbox/api"
	"bandbox/op"
)

// whole is an edit's bytes at the front of a longer row: b has spare room behind it, and row shows that, too.
func whole(e op.Edit) (row, b []byte) {
	b = told(e)
	row = append(bytes.Clone(b), bytes.Repeat([]byte{0x5a}, 300)...)
	return row, row[:len(b)]
}

func scribble(b []byte) {
	b = b[:cap(b)]
	for i := range b {
		b[i] = 0xee
	}
}

func TestGetChangesNothing(t *testing.T) {
	for _, e := range append(some(), none()...) {
		row, b := whole(e)
		before := bytes.Clone(row)
		op.Get(b)
		op.Get(b[:len(b)/2])
		op.Get(row)
		if !bytes.Equal(row, before) {
			t.Errorf("R4: Get of %+v changed what was handed in: %q", e, row)
		}
	}
}

// A text that shared memory with the bytes would turn with them.
func TestWhatGetToldStays(t *testing.T) {
	for _, e := range some() {
		row, b := whole(e)
		x, err := op.Get(b)
		contact, field, value := strings.Clone(x.Contact), strings.Clone(x.Field), strings.Clone(x.Value)
		scribble(row)
		if x != e || err != api.OK || x.Contact != contact || x.Field != field || x.Value != value {
			t.Errorf("R4: Get of %+v: %+v, when its bytes were written into", e, x)
		}
		if _, err := op.Get(row); err != api.EFORM {
			t.Errorf("R5: Get of bytes that were written into: %d", err)
		}
	}
}

func TestTwoAnswersOfPutShareNothing(t *testing.T) {
	for _, e := range some() {
		one, two := op.Put(e), op.Put(e)
		kept := bytes.Clone(two)
		if !bytes.Equal(one, kept) {
			t.Errorf("R5: Put of %+v: %q, then %q", e, one, kept)
		}
		_ = append(one, bytes.Repeat([]byte{0x77}, 300)...)
		scribble(one)
		if !bytes.Equal(two, kept) || !bytes.Equal(op.Put(e), kept) {
			t.Errorf("R4: two answers of Put of %+v share memory", e)
		}
		x, _ := op.Get(two)
		scribble(two)
		if x != e {
			t.Errorf("R4: Get of what Put wrote of %+v keeps it", e)
		}
	}
}

func TestNothingHandedBackOfOneThatMayNotBeIsShared(t *testing.T) {
	for _, e := range none() {
		one := op.Put(e)
		scribble(one)
		_ = append(one, "more"...)
		if two := op.Put(e); len(two) != 0 {
			t.Errorf("R4: Put of %+v: %q", e, two)
		}
	}
}

func TestNilAndAnEmptyListAreOne(t *testing.T) {
	x, err := op.Get(nil)
	y, other := op.Get([]byte{})
	z, third := op.Get(make([]byte, 0, 100))
	if x != y || y != z || err != other || other != third || err != api.EFORM {
		t.Errorf("R4: Get: %d of nil, %d and %d of an empty list", err, other, third)
	}
}

// What a call answers hangs on its arguments alone: the same again, whatever was asked between.
func TestTheSameAgain(t *testing.T) {
	all := append(some(), none()...)
	for _, a := range all {
		good, put, over, less := op.Good(a), op.Put(a), op.Over(a, first()), op.Less(a, first())
		x, err := op.Get(put)
		kept := a
		for _, b := range all[:8] {
			op.Good(b)
			op.Over(a, b)
			op.Less(b, a)
			op.Get(op.Put(b))
		}
		op.Get([]byte("what is no edit"))
		y, again := op.Get(put)
		if a != kept || op.Good(a) != good || !bytes.Equal(op.Put(a), put) || op.Over(a, first()) != over || op.Less(a, first()) != less || x != y || err != again {
			t.Errorf("R5: of %+v something else is told the second time", a)
		}
	}
}
