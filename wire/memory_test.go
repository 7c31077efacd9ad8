package wire_test

import (
	"bytes"
	"math"
	"slices"
	"testing"

	"bandbox/api"
	"bandbox/wire"
)

// calls are those that take a list and answer one.
func calls() map[string]func(b []byte) []byte {
	word := mixedWord(1)
	return map[string]func(b []byte) []byte{
		"Num 0":             func(b []byte) []byte { return wire.Num(b, 0) },
		"Num -1":            func(b []byte) []byte { return wire.Num(b, -1) },
		"Num 300":           func(b []byte) []byte { return wire.Num(b, 300) },
		"Num, the greatest": func(b []byte) []byte { return wire.Num(b, math.MaxInt64) },
		"Bytes, ahead":      func(b []byte) []byte { return wire.Bytes(b, []byte("xyz")) },
		"Bytes, none ahead": func(b []byte) []byte { return wire.Bytes(nil, b) },
		"Bytes, of none":    func(b []byte) []byte { return wire.Bytes(b, nil) },
		"Bytes, both":       func(b []byte) []byte { return wire.Bytes(b, b) },
		"Text":              func(b []byte) []byte { return wire.Text(b, "xyz") },
		"Text of none":      func(b []byte) []byte { return wire.Text(b, "") },
		"Word":              func(b []byte) []byte { return wire.Word(b, word) },
		"Bytes of a reader": func(b []byte) []byte { return wire.Read(wire.Bytes(nil, b)).Bytes(100) },
		"Bytes of a list":   func(b []byte) []byte { return wire.Read(slices.Concat([]byte{byte(len(b))}, b)).Bytes(100) },
	}
}

// whole is five bytes of a longer row: b has spare room behind it, and row shows that, too.
func whole() (row, b []byte) {
	row = []byte{4, 2, 1, 7, 5, 91, 92, 93, 94, 95, 96, 97, 98, 99, 100, 101, 102, 103, 104, 105, 106, 107, 108, 109, 110, 111, 112, 113, 114, 115, 116, 117, 118, 119, 120, 121, 122, 123, 124, 125}
	return row, row[:5]
}

func scribble(b []byte) {
	b = b[:cap(b)]
	for i := range b {
		b[i] = 0xee
	}
}

func TestListsHandedInAreNotChangedAndNotHandedBack(t *testing.T) {
	for name, call := range calls() {
		row, b := whole()
		before := bytes.Clone(row)
		one := call(b)
		kept := bytes.Clone(one)
		if !bytes.Equal(row, before) {
			t.Errorf("R4: %s changed what was handed in: %v", name, row)
		}
		two := call(b)
		scribble(two)
		if !bytes.Equal(one, kept) {
			t.Errorf("R4: %s: two answers share memory", name)
		}
		scribble(one)
		if !bytes.Equal(row, before) {
			t.Errorf("R4: %s handed back what was handed in: %v", name, row)
		}
	}
}

func TestAnswersDoNotHangOnWhatWasHandedInLater(t *testing.T) {
	for name, call := range calls() {
		row, b := whole()
		got := call(b)
		kept := bytes.Clone(got)
		scribble(row)
		if !bytes.Equal(got, kept) {
			t.Errorf("R4: %s shares memory with what was handed in", name)
		}
	}
}

func TestAppendingToOneDoesNotReachAnother(t *testing.T) {
	for name, call := range calls() {
		_, b := whole()
		one := call(b)
		for again, next := range calls() {
			left, right := next(one), next(one)
			kept := bytes.Clone(right)
			_ = append(left, "left"...)
			_ = append(one, "one"...)
			scribble(left)
			if !bytes.Equal(right, kept) {
				t.Errorf("R4: %s behind %s: two share memory", again, name)
			}
		}
	}
}

func TestBytesChangeNeitherOfTwoLists(t *testing.T) {
	row, b := whole()
	other, x := whole()
	before := bytes.Clone(row)
	got := wire.Bytes(b, x)
	if !bytes.Equal(row, before) || !bytes.Equal(other, before) {
		t.Errorf("R4: Bytes changed what was handed in: %v, %v", row, other)
	}
	kept := bytes.Clone(got)
	scribble(other)
	if !bytes.Equal(got, kept) {
		t.Error("R4: Bytes shares memory with what was handed in")
	}
}

// parts is what a reader is told of here: a number, bytes, a text, a Word, a Sig.
func parts() []byte {
	word, s := mixedWord(1), mixed(64)
	b := wire.Num(nil, 300)
	b = wire.Bytes(b, []byte("some"))
	b = wire.Text(b, "text")
	b = wire.Word(b, word)
	return append(b, s...)
}

// partsRead fails where r does not read these parts.
func partsRead(t *testing.T, what string, r *wire.Reader) {
	t.Helper()
	if v, x, s, w, g := r.Num(300), r.Bytes(4), r.Text(4), r.Word(), r.Sig(); v != 300 || string(x) != "some" || s != "text" || w != mixedWord(1) || g != api.Sig(mixed(64)) || !r.End() {
		t.Errorf("%s: %d, %q, %q, %x, %x, End is %v", what, v, x, s, w, g, r.End())
	}
}

func TestAReaderKeepsNothingOfItsList(t *testing.T) {
	room := append(make([]byte, 0, 500), parts()...)
	r := wire.Read(room)
	scribble(room)
	partsRead(t, "R4: a list that was written into after Read", r)

	room = append(make([]byte, 0, 500), parts()...)
	r = wire.Read(room)
	if r.Num(300) != 300 {
		t.Error("P11.1: Num")
	}
	copy(room, "\xff\xff\xff\xff\xff")
	if x := r.Bytes(4); string(x) != "some" {
		t.Errorf("R4: a list that was written into behind the first call: %q", x)
	}
}

func TestReadingChangesNothingOfTheList(t *testing.T) {
	room := append(make([]byte, 0, 500), parts()...)
	before := bytes.Clone(room[:cap(room)])
	r := wire.Read(room)
	r.Num(300)
	x := r.Bytes(4)
	_ = append(x, "and more of it"...)
	scribble(x)
	r.Text(4)
	r.Word()
	r.Sig()
	r.Num(3)
	for _, s := range spoils() {
		kept := bytes.Clone(s.b)
		bad(t, "a list as it was", asks(wire.Read(s.b), s.call))
		if !bytes.Equal(s.b, kept) {
			t.Errorf("R4: a reader changed its list: %x", s.b)
		}
	}
	if !bytes.Equal(room[:cap(room)], before) {
		t.Errorf("R4: a reader changed its list: %x", room)
	}
}

func TestWhatAReaderToldIsNotItsOwn(t *testing.T) {
	r := wire.Read(wire.Bytes(wire.Bytes(wire.Bytes(nil, []byte("one")), nil), []byte("three")))
	one, two := r.Bytes(9), r.Bytes(9)
	_ = append(one, "\x09\x09\x09\x09\x09\x09"...)
	_ = append(two, "\x09\x09\x09\x09\x09\x09"...)
	scribble(one)
	scribble(two)
	three := r.Bytes(9)
	if string(three) != "three" || !r.End() {
		t.Errorf("R4: behind an answer that was written into: %q", three)
	}
	scribble(one)
	if string(three) != "three" {
		t.Errorf("R4: two answers share memory: %q", three)
	}
}

func TestReadersDoNotKnowOfOneAnother(t *testing.T) {
	b := parts()
	one, two, three := wire.Read(b), wire.Read(b), wire.Read(b)
	one.Num(300)
	one.Bytes(4)
	two.Num(0)
	partsRead(t, "R5: beside another reader", three)
	if one.Bad() || one.Text(4) != "text" {
		t.Error("R5: a reader knows of one that is bad")
	}
	bad(t, "R5: beside others", two)
	partsRead(t, "R5: a list that was read already", wire.Read(b))
	scribble(wire.Read(b).Bytes(300))
	partsRead(t, "R5: a list of which an answer was written into", wire.Read(b))
}

// One's call between two of another's changes neither.
func TestReadersInTurn(t *testing.T) {
	b := wire.Num(wire.Num(wire.Num(nil, 1), 200), 70000)
	one, two := wire.Read(b), wire.Read(b)
	for i, v := range []int64{1, 200, 70000} {
		if x, y := one.Num(v), two.Num(v); x != v || y != v {
			t.Errorf("R5: number %d: %d, %d", i, x, y)
		}
	}
	good(t, "one", one, 0)
	good(t, "two", two, 0)
}

func TestNilAndAnEmptyListAreOne(t *testing.T) {
	for name, call := range calls() {
		if x, y := call(nil), call([]byte{}); !bytes.Equal(x, y) {
			t.Errorf("R4: %s: %v of nil, %v of an empty list", name, x, y)
		}
	}
	if x, y := wire.Bytes([]byte("a"), nil), wire.Bytes([]byte("a"), []byte{}); !bytes.Equal(x, y) {
		t.Errorf("R4: Bytes: %v of nil, %v of an empty list", x, y)
	}
}
