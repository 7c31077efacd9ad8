package pad_test

import (
	"bytes"
	"slices"
	"strconv"
	"testing"

	"bandbox/api"
	"bandbox/pad"
)

// calls are those that take a list and answer one, and one behind the other.
func calls() map[string]func(b []byte) ([]byte, api.Errno) {
	return map[string]func(b []byte) ([]byte, api.Errno){
		"Pad":   pad.Pad,
		"Unpad": pad.Unpad,
		"Unpad of Pad": func(b []byte) ([]byte, api.Errno) {
			x, _ := pad.Pad(b)
			return pad.Unpad(x)
		},
		"Pad of Unpad": func(b []byte) ([]byte, api.Errno) {
			x, _ := pad.Unpad(b)
			return pad.Pad(x)
		},
	}
}

// lists are such that each call tells something of one of them, and is refused with another.
func lists() [][]byte {
	out := [][]byte{{}, []byte("ann"), filled(nil, 64), filled([]byte("ann"), 64), filled(mixed(63), 64), filled(mixed(64), 128), make([]byte, 64), filled(nil, 128), mixed(65), mixed(65536)}
	return append(out, bytes.Repeat([]byte{128}, 65536))
}

// roomy is b as the beginning of a longer row: b has spare room for all that Pad puts behind it, and row shows that, too.
func roomy(b []byte) (row, front []byte) {
	row = append(bytes.Clone(b), bytes.Repeat([]byte{0x5a}, len(b)+200)...)
	return row, row[:len(b)]
}

func scribble(b []byte) {
	b = b[:cap(b)]
	for i := range b {
		b[i] = 0xee
	}
}

// each asks each call of each list.
func each(t *testing.T, ask func(t *testing.T, b []byte, call func(b []byte) ([]byte, api.Errno))) {
	for name, call := range calls() {
		for i, b := range lists() {
			t.Run(name+" of list "+strconv.Itoa(i), func(t *testing.T) { ask(t, b, call) })
		}
	}
}

func TestListsHandedInAreNotChangedAndNotHandedBack(t *testing.T) {
	each(t, func(t *testing.T, b []byte, call func(b []byte) ([]byte, api.Errno)) {
		row, front := roomy(b)
		before := bytes.Clone(row)
		one, _ := call(front)
		if !bytes.Equal(row, before) {
			t.Error("R4: it changed what was handed in")
		}
		scribble(one)
		if !bytes.Equal(row, before) {
			t.Error("R4: it handed back what was handed in")
		}
	})
}

func TestAnswersDoNotHangOnWhatWasHandedInLater(t *testing.T) {
	each(t, func(t *testing.T, b []byte, call func(b []byte) ([]byte, api.Errno)) {
		row, front := roomy(b)
		got, _ := call(front)
		kept := bytes.Clone(got)
		scribble(row)
		if !bytes.Equal(got, kept) {
			t.Error("R4: the answer shares memory with what was handed in")
		}
	})
}

func TestAnswersShareNothingWithOneAnother(t *testing.T) {
	each(t, func(t *testing.T, b []byte, call func(b []byte) ([]byte, api.Errno)) {
		_, front := roomy(b)
		one, e := call(front)
		kept := bytes.Clone(one)
		two, _ := call(front)
		_ = append(two, "two and more of it"...)
		scribble(two)
		if !bytes.Equal(one, kept) {
			t.Error("R4: two answers share memory")
		}
		scribble(one)
		if three, again := call(front); !bytes.Equal(three, kept) || again != e {
			t.Error("R5: it hangs on an answer that was written into")
		}
	})
}

func TestAppendingReachesNothingElse(t *testing.T) {
	each(t, func(t *testing.T, b []byte, call func(b []byte) ([]byte, api.Errno)) {
		row, front := roomy(b)
		before := bytes.Clone(row)
		one, _ := call(front)
		two, _ := call(front)
		kept := bytes.Clone(two)
		more := bytes.Repeat([]byte{0x77}, 200)
		_ = append(one, more...)
		_ = append(one[:0], more...)
		if !bytes.Equal(two, kept) {
			t.Error("R4: appending to one answer reached another one")
		}
		if !bytes.Equal(row, before) {
			t.Error("R4: appending to an answer reached what was handed in")
		}
	})
}

// What stands behind a list in its spare room is not its own, though it looks like it.
func TestSpareRoomIsNotLookedAt(t *testing.T) {
	row := slices.Concat(filled([]byte("ann"), 64), filled([]byte("bob"), 64))
	shown(t, "a list with spare room", row[:64], []byte("ann"))
	refused(t, "a list that its spare room would make whole", row[:63])
	refused(t, "a list that ends in its spare room", append(mixed(64), 128)[:64])
	if got, e := pad.Pad(row[:3]); e != api.OK || !bytes.Equal(got, filled([]byte("ann"), 64)) {
		t.Errorf("R4: Pad of a list with spare room: %q, %d", got, e)
	}
	dirty := bytes.Repeat([]byte{0x5a}, 64)
	if got, e := pad.Pad(dirty[:0]); e != api.OK || !bytes.Equal(got, filled(nil, 64)) {
		t.Errorf("R4: Pad of none with spare room: %q, %d", got, e)
	}
}

func TestNilAndAnEmptyListAreOne(t *testing.T) {
	for name, call := range calls() {
		x, e := call(nil)
		y, f := call([]byte{})
		if !bytes.Equal(x, y) || e != f {
			t.Errorf("R4: %s: %d bytes, %d of nil; %d bytes, %d of an empty list", name, len(x), e, len(y), f)
		}
	}
}
