package vec_test

import (
	"bytes"
	"testing"

	"bandbox/api"
	"bandbox/vec"
	"bandbox/wire"
)

// whole is five bytes of a longer row: b has spare room behind it for all that Put writes, and row shows that, too.
func whole() (row, b []byte) {
	row = append([]byte("front"), bytes.Repeat([]byte{0x5a}, 300)...)
	return row, row[:5]
}

func scribble(b []byte) {
	b = b[:cap(b)]
	for i := range b {
		b[i] = 0xee
	}
}

func TestPutChangesNothingAndHandsNothingBack(t *testing.T) {
	for _, v := range some() {
		row, b := whole()
		before := bytes.Clone(row)
		one := vec.Put(b, v)
		if !bytes.Equal(row, before) {
			t.Errorf("R4: Put of %v changed what was handed in: %q", v, row)
		}
		kept := bytes.Clone(one)
		_ = append(one, bytes.Repeat([]byte{0x77}, 300)...)
		scribble(row)
		if !bytes.Equal(one, kept) {
			t.Errorf("R4: Put of %v shares memory with what was handed in", v)
		}
		row, b = whole()
		scribble(vec.Put(b, v))
		if !bytes.Equal(row, before) {
			t.Errorf("R4: Put of %v handed back what was handed in: %q", v, row)
		}
	}
}

func TestTwoAnswersOfPutShareNothing(t *testing.T) {
	_, b := whole()
	for _, ahead := range [][]byte{nil, {}, b, make([]byte, 0, 300), make([]byte, 9, 300)} {
		for _, v := range some() {
			one, two := vec.Put(ahead, v), vec.Put(ahead, v)
			kept := bytes.Clone(two)
			if !bytes.Equal(one, kept) {
				t.Errorf("R5: Put of %v: %x, then %x", v, one, kept)
			}
			_ = append(one, bytes.Repeat([]byte{0x77}, 300)...)
			scribble(one)
			if !bytes.Equal(two, kept) {
				t.Errorf("R4: two answers of Put of %v share memory", v)
			}
			three := vec.Put(two, v)
			kept = bytes.Clone(three)
			scribble(two)
			if !bytes.Equal(three, kept) {
				t.Errorf("R4: Put of %v behind an answer shares memory with it", v)
			}
		}
	}
}

func TestPutBehindNilAndBehindAnEmptyListAreOne(t *testing.T) {
	for _, v := range some() {
		if x, y := vec.Put(nil, v), vec.Put([]byte{}, v); !bytes.Equal(x, y) {
			t.Errorf("R4: Put of %v: %x behind nil, %x behind an empty list", v, x, y)
		}
	}
}

// A vector is handed in as a value, but what a caller has of it must not be reached in another way either.
func TestVectorsAreNotChanged(t *testing.T) {
	for _, a := range some() {
		for _, b := range some() {
			x, y := a, b
			m := vec.Merge(x, y)
			cmp, le, has, sum := vec.Cmp(x, y), vec.Le(x, y), vec.Has(x, api.Dot{Dev: 1, N: y[1]}), vec.Sum(x)
			good, put := vec.Good(x), vec.Put(nil, x)
			if x != a || y != b {
				t.Fatalf("R4: %v and %v became %v and %v", a, b, x, y)
			}
			scribble(put)
			x[3]++
			if vec.Merge(a, b) != m || vec.Cmp(a, b) != cmp || vec.Le(a, b) != le || vec.Has(a, api.Dot{Dev: 1, N: b[1]}) != has || vec.Sum(a) != sum || vec.Good(a) != good {
				t.Fatalf("R5: of %v and %v something else is told the second time", a, b)
			}
		}
	}
}

func TestWhatGetToldStays(t *testing.T) {
	a, b := vec.Vec{1, 300, most}, filled(9)
	row := vec.Put(vec.Put(nil, a), b)
	kept := bytes.Clone(row)
	r := wire.Read(row)
	one := vec.Get(r)
	scribble(row)
	two := vec.Get(r)
	if vec.Get(r) != (vec.Vec{}) || one != a || two != b {
		t.Errorf("R4: Get: %v, %v", one, two)
	}
	other := wire.Read(kept)
	if got := vec.Get(other); got != a || other.Bad() {
		t.Errorf("R5: Get of another reader, behind one that is bad: %v", got)
	}
	if !bytes.Equal(kept[:len(told(a))], told(a)) {
		t.Errorf("R4: Get changed the reader's bytes: %x", kept)
	}
}
