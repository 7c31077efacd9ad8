package disk_test

import (
	"bytes"
	"math"
	"testing"

	"bandbox/api"
	"bandbox/disk"
)

func scribble(b []byte) {
	b = b[:cap(b)]
	for i := range b {
		b[i] = 0xee
	}
}

// read is all of a file that is there.
func read(t *testing.T, d *disk.Disk, name string) []byte {
	t.Helper()
	b, e := d.Read(name)
	ok(t, "Read", e)
	return b
}

func TestAppendDoesNotChangeWhatIsHandedIn(t *testing.T) {
	row := []byte("annbobcyd")
	before := bytes.Clone(row)
	d := made(t, 64)
	ok(t, "Append", d.Append("a", row[:3]))
	ok(t, "Append", d.Append("a", row[3:5]))
	ok(t, "Append", d.Append("b", row[:0]))
	ok(t, "Append", d.Append("b", row[:6]))
	put(t, d, "a", "more of it")
	is(t, "P13.1: Append of too much", d.Append("a", append(row, make([]byte, 64)...)), api.EFULL)
	fall(d, 4, 1)
	put(t, d, "b", "more of it")
	scribble(read(t, d, "a"))
	if !bytes.Equal(row, before) {
		t.Errorf("R4: what was handed in is now %q", row)
	}
}

func TestWhatWasHandedInIsNotKept(t *testing.T) {
	d := made(t, 64)
	row := []byte("annbob")
	ok(t, "Append", d.Append("a", row[:3]))
	ok(t, "Append", d.Append("b", row[:0]))
	ok(t, "Append", d.Append("b", row))
	ok(t, "Append", d.Append("c", row[2:4]))
	ok(t, "Sync", d.Sync("a"))
	scribble(row)
	holds(t, "R4: what was handed in is written into", d, map[string]string{"a": "ann", "b": "annbob", "c": "nb"})
	fall(d, math.MaxUint64, 0)
	holds(t, "R4: the same, behind a Crash", d, map[string]string{"a": "ann", "b": "annbob", "c": "nb"})
}

func TestAnswersAreNewMemory(t *testing.T) {
	d := made(t, 64)
	put(t, d, "a", "ann", "bob")
	put(t, d, "b", "cyd")
	fill := func(what string) {
		one, two := read(t, d, "a"), read(t, d, "a")
		_ = append(one, "behind it"...)
		_ = append(one[:0], "ahead of it"...)
		if string(two) != "annbob" {
			t.Errorf("R4: %s: appending to one answer reached another: %q", what, two)
		}
		scribble(one)
		if string(two) != "annbob" {
			t.Errorf("R4: %s: two answers share memory: %q", what, two)
		}
		scribble(read(t, d, "b"))
		holds(t, "R4: "+what+": an answer is written into", d, map[string]string{"a": "annbob", "b": "cyd"})
	}
	fill("writes")
	ok(t, "Sync", d.Sync("a"))
	fill("behind a Sync")
	ok(t, "Sync", d.Sync("b"))
	fall(d, 0, 0)
	fill("behind a Crash")
	ok(t, "Rename", d.Rename("a", "c"))
	ok(t, "Rename", d.Rename("c", "a"))
	fill("behind a Rename")
}

// What is written later must not be seen in an answer that was told ahead of it, in its spare room neither.
func TestAnswersDoNotHangOnWhatComesLater(t *testing.T) {
	d := made(t, 64)
	put(t, d, "a", "ann", "bob")
	was := read(t, d, "a")
	spare := bytes.Clone(was[:cap(was)])
	put(t, d, "a", "cyd")
	holds(t, "P13.1: Append behind a Read", d, map[string]string{"a": "annbobcyd"})
	fall(d, 4, 0)
	put(t, d, "a", "dan")
	ok(t, "Drop", d.Drop("a"))
	put(t, d, "a", "eve")
	if string(was) != "annbob" || !bytes.Equal(was[:cap(was)], spare) {
		t.Errorf("R4: an answer is now %q", was)
	}
}

func TestReadOfNoBytes(t *testing.T) {
	d := made(t, 64)
	put(t, d, "a", "")
	b := read(t, d, "a")
	if len(b) != 0 {
		t.Errorf("P13.1: Read of an empty file: %q", b)
	}
	scribble(b)
	_ = append(b, "ann"...)
	put(t, d, "a", "bob")
	holds(t, "R4: appending to no bytes", d, map[string]string{"a": "bob"})
}

func TestNilAndAnEmptyListAreOne(t *testing.T) {
	x, y := made(t, 64), made(t, 64)
	for range 3 {
		is(t, "P13.1: Append of nil", x.Append("a", nil), api.OK)
		is(t, "P13.1: Append of none", y.Append("a", []byte{}), api.OK)
		put(t, x, "a", "ab")
		put(t, y, "a", "ab")
	}
	fall(x, 2+8+16, 1)
	fall(y, 2+8+16, 1)
	holds(t, "R4: nil", x, map[string]string{"a": "abab"})
	holds(t, "R4: an empty list", y, map[string]string{"a": "abab"})
}

func TestDisksHaveNothingToDoWithOneAnother(t *testing.T) {
	x, y, z := made(t, 64), made(t, 64), made(t, 100)
	put(t, x, "a", "ann")
	put(t, y, "a", "bob", "cyd")
	ok(t, "Sync", x.Sync("a"))
	x.Crash(0, 0)
	if !y.Power() || !z.Power() || x.Power() || y.Size() != 6 || z.Size() != 0 {
		t.Errorf("R5: a Crash of one disk reached another")
	}
	y.On()
	put(t, z, "a", "dan")
	ok(t, "Drop", z.Drop("a"))
	if x.Lives() != 1 || y.Lives() != 2 || z.Lives() != 1 {
		t.Errorf("R5: Lives are %d, %d, %d", x.Lives(), y.Lives(), z.Lives())
	}
	x.On()
	is(t, "P13.1: Append of too much", x.Append("a", make([]byte, 62)), api.EFULL)
	is(t, "P13.1: Append of too much", y.Append("a", make([]byte, 59)), api.EFULL)
	fall(y, 2, 0)
	holds(t, "R5: one disk", x, map[string]string{"a": "ann"})
	holds(t, "R5: another", y, map[string]string{"a": "000cyd"})
	holds(t, "R5: a third", z, nil)
	ok(t, "as much as there is room", z.Append("a", make([]byte, 100)))
}

// What was lost must not come back: neither what a crash cut off, nor what it made noughts of.
func TestWhatWasLostDoesNotComeBack(t *testing.T) {
	d := made(t, 64)
	put(t, d, "a", "ann", "bob", "cyd")
	fall(d, 2, 1)
	put(t, d, "a", "")
	holds(t, "P13.2: behind a Crash", d, map[string]string{"a": "000bo"})
	put(t, d, "a", "x", "y")
	fall(d, 4, 0)
	holds(t, "P13.2: behind another Crash", d, map[string]string{"a": "000bo0y"})
}

func TestTheSameCallsTellTheSame(t *testing.T) {
	tell := func() string {
		d := made(t, 64)
		for _, name := range []string{"d", "a", "c", "b"} {
			put(t, d, name, name+"1", name+"2", name+"3")
		}
		fall(d, 5, 1)
		var all []byte
		for _, name := range names() {
			b, _ := d.Read(name)
			all = append(append(all, b...), '|')
		}
		return string(all)
	}
	first := tell()
	for range 20 {
		if again := tell(); again != first {
			t.Fatalf("R5: %q, and %q", first, again)
		}
	}
}
