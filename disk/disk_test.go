package disk_test

import (
	"bytes"
	"math"
	"strconv"
	"strings"
	"testing"

	"bandbox/api"
	"bandbox/disk"
)

func TestExample(t *testing.T) {
	d := made(t, 64)
	put(t, d, "a", "xy", "z")
	d.Crash(2, 0)
	d.On()
	b, e := d.Read("a")
	if e != api.OK || string(b) != "\x00\x00z" {
		t.Errorf("P13.2: the example: %q, %d", b, e)
	}
}

func TestNew(t *testing.T) {
	for _, room := range []int{64, 65, 1000, 1<<20 - 1, 1 << 20} {
		d, e := disk.New(room)
		if e != api.OK || d == nil || !d.Power() || d.Lives() != 1 || d.Size() != 0 {
			t.Fatalf("P13.1: New(%d): %d", room, e)
		}
		holds(t, "P13.1: a new disk", d, nil)
	}
	for _, room := range []int{63, 1, 0, -1, -64, 1<<20 + 1, 1 << 21, 1<<32 + 64, math.MaxInt, math.MinInt, math.MinInt + 64} {
		if d, e := disk.New(room); d != nil || e != api.EARG {
			t.Errorf("P13.1, R2: New(%d): %d", room, e)
		}
	}
}

// goodNames are of each length, and of each byte at each place.
func goodNames() []string {
	out := []string{"a", "~", "!", strings.Repeat("!", 20), strings.Repeat("~", 20), "../x", "a.b", "new"}
	for n := 1; n <= 20; n++ {
		out = append(out, strings.Repeat("n", n))
	}
	for c := 33; c <= 126; c++ {
		s := string([]byte{byte(c)})
		out = append(out, s, s+"mm", "m"+s+"m", "mm"+s, strings.Repeat("m", 19)+s, s+strings.Repeat("m", 19))
	}
	return out
}

// badNames are those with a byte too low or too high, none, and those too long.
func badNames() []string {
	out := []string{"", strings.Repeat("n", 21), strings.Repeat("n", 22), strings.Repeat("n", 276), strings.Repeat("n", 65536), "a b", "a\n", "ä", "aä", "日", " ", "a\x00", strings.Repeat("m", 20) + " ", strings.Repeat("m", 20) + "\x00"}
	for c := range 256 {
		if c >= 33 && c <= 126 {
			continue
		}
		s := string([]byte{byte(c)})
		out = append(out, s, s+"mm", "m"+s+"m", "mm"+s, strings.Repeat("m", 19)+s, s+strings.Repeat("m", 19))
	}
	return out
}

func TestGoodNames(t *testing.T) {
	for _, name := range goodNames() {
		d := made(t, 64)
		what := "P13.1: the name " + strconv.Quote(name) + ": "
		is(t, what+"Sync of none", d.Sync(name), api.ENONE)
		is(t, what+"Drop of none", d.Drop(name), api.ENONE)
		is(t, what+"Rename of none", d.Rename(name, "other"), api.ENONE)
		_, e := d.Read(name)
		is(t, what+"Read of none", e, api.ENONE)
		is(t, what+"Append", d.Append(name, []byte("xy")), api.OK)
		is(t, what+"Sync", d.Sync(name), api.OK)
		is(t, what+"Rename from it", d.Rename(name, "other"), api.OK)
		is(t, what+"Rename to it", d.Rename("other", name), api.OK)
		b, e := d.Read(name)
		if e != api.OK || string(b) != "xy" {
			t.Errorf("%sRead: %q, %d", what, b, e)
		}
		is(t, what+"Drop", d.Drop(name), api.OK)
	}
}

func TestNamesThatAreNone(t *testing.T) {
	d := made(t, 64)
	put(t, d, "a", "xy")
	for _, name := range badNames() {
		what := "P13.1: the name " + strconv.Quote(name[:min(len(name), 30)]) + ": "
		is(t, what+"Append", d.Append(name, []byte("z")), api.EARG)
		is(t, what+"Append of none", d.Append(name, nil), api.EARG)
		is(t, what+"Append of too much", d.Append(name, make([]byte, 65)), api.EARG)
		is(t, what+"Sync", d.Sync(name), api.EARG)
		b, e := d.Read(name)
		if e != api.EARG || len(b) != 0 {
			t.Errorf("%sRead: %q, %d", what, b, e)
		}
		is(t, what+"Rename from it", d.Rename(name, "b"), api.EARG)
		is(t, what+"Rename to it", d.Rename("a", name), api.EARG)
		is(t, what+"Rename over itself", d.Rename(name, name), api.EARG)
		is(t, what+"Rename of a file that is not there", d.Rename("none", name), api.EARG)
		is(t, what+"Rename from it, over another", d.Rename(name, "a"), api.EARG)
		is(t, what+"Rename of two", d.Rename(name, ""), api.EARG)
		is(t, what+"Drop", d.Drop(name), api.EARG)
	}
	holds(t, "R3: behind names that are none", d, map[string]string{"a": "xy"})
}

// A name is its bytes: what looks alike is another one.
func TestNamesAreHeldAgainstOneAnotherByTheirBytes(t *testing.T) {
	d := made(t, 64)
	put(t, d, "a", "small")
	put(t, d, "A", "great")
	put(t, d, "aa", "long")
	for name, want := range map[string]string{"a": "small", "A": "great", "aa": "long"} {
		if b, e := d.Read(name); e != api.OK || string(b) != want {
			t.Errorf("P13.1: %s: %q, %d", name, b, e)
		}
	}
}

func TestWithoutPower(t *testing.T) {
	d := made(t, 64)
	put(t, d, "a", "xy")
	put(t, d, "b", "z")
	d.Crash(math.MaxUint64, 0)
	if d.Power() || d.Lives() != 1 {
		t.Errorf("P13.2: Power is %v, Lives is %d", d.Power(), d.Lives())
	}
	for _, name := range append(badNames(), "a", "b", "none") {
		what := "P13.1: without power: "
		is(t, what+"Append", d.Append(name, []byte("z")), api.EOFF)
		is(t, what+"Append of none", d.Append(name, nil), api.EOFF)
		is(t, what+"Append of too much", d.Append(name, make([]byte, 65)), api.EOFF)
		is(t, what+"Sync", d.Sync(name), api.EOFF)
		b, e := d.Read(name)
		if e != api.EOFF || len(b) != 0 {
			t.Errorf("%sRead: %q, %d", what, b, e)
		}
		is(t, what+"Rename from it", d.Rename(name, "c"), api.EOFF)
		is(t, what+"Rename to it", d.Rename("a", name), api.EOFF)
		is(t, what+"Rename over itself", d.Rename(name, name), api.EOFF)
		is(t, what+"Drop", d.Drop(name), api.EOFF)
		if n := d.Size(); n != 0 {
			t.Errorf("P13.1: without power: Size: %d", n)
		}
	}
	d.On()
	holds(t, "R3: what was refused without power", d, map[string]string{"a": "xy", "b": "z"})
}

func TestAppend(t *testing.T) {
	d := made(t, 64)
	put(t, d, "a", "xy")
	holds(t, "P13.1: one write", d, map[string]string{"a": "xy"})
	put(t, d, "a", "z")
	put(t, d, "b", "\x00\xff\x80")
	put(t, d, "a", "w")
	holds(t, "P13.1: writes", d, map[string]string{"a": "xyzw", "b": "0\xff\x80"})
	ok(t, "Append of nil", d.Append("c", nil))
	ok(t, "Append of none", d.Append("d", []byte{}))
	ok(t, "Append of none behind some", d.Append("a", nil))
	holds(t, "P13.1: writes of none", d, map[string]string{"a": "xyzw", "b": "0\xff\x80", "c": "", "d": ""})
}

func TestRoom(t *testing.T) {
	for _, room := range []int{64, 65, 100, 4096, 1<<20 - 1, 1 << 20} {
		d := made(t, room)
		is(t, "P13.1: one too much in one write", d.Append("a", make([]byte, room+1)), api.EFULL)
		holds(t, "R3: a write that was too long", d, nil)
		ok(t, "as much as there is room", d.Append("a", make([]byte, room)))
		is(t, "P13.1: one more", d.Append("a", []byte{1}), api.EFULL)
		is(t, "P13.1: one more, in another file", d.Append("b", []byte{1}), api.EFULL)
		is(t, "P13.1: much more", d.Append("b", make([]byte, 2*room)), api.EFULL)
		holds(t, "R3: a full disk", d, map[string]string{"a": strings.Repeat("0", room)})
		ok(t, "none on a full disk", d.Append("b", nil))
		ok(t, "none behind a file on a full disk", d.Append("a", []byte{}))
		holds(t, "P13.1: a full disk", d, map[string]string{"a": strings.Repeat("0", room), "b": ""})
	}
}

func TestRoomOfSeveralFiles(t *testing.T) {
	d := made(t, 64)
	x := func(n int) string { return strings.Repeat("x", n) }
	put(t, d, "a", x(20), x(10))
	put(t, d, "b", x(30))
	is(t, "P13.1: one too much behind a", d.Append("a", make([]byte, 5)), api.EFULL)
	is(t, "P13.1: one too much behind b", d.Append("b", make([]byte, 5)), api.EFULL)
	is(t, "P13.1: one too much in c", d.Append("c", make([]byte, 5)), api.EFULL)
	holds(t, "R3: a disk that is nearly full", d, map[string]string{"a": x(30), "b": x(30)})
	put(t, d, "c", x(4))
	is(t, "P13.1: one too much", d.Append("c", make([]byte, 1)), api.EFULL)
	ok(t, "Drop", d.Drop("b"))
	is(t, "P13.1: one too much behind a Drop", d.Append("b", make([]byte, 31)), api.EFULL)
	put(t, d, "b", x(30))
	ok(t, "Rename over a file", d.Rename("c", "a"))
	is(t, "P13.1: one too much behind a Rename", d.Append("d", make([]byte, 31)), api.EFULL)
	put(t, d, "d", x(30))
	holds(t, "P13.1: a full disk", d, map[string]string{"a": x(4), "b": x(30), "d": x(30)})
	ok(t, "Rename over nothing", d.Rename("a", "c"))
	ok(t, "Rename over itself", d.Rename("c", "c"))
	is(t, "P13.1: one too much behind a Rename over nothing", d.Append("d", make([]byte, 1)), api.EFULL)
}

func TestSyncReadAndDropOfNone(t *testing.T) {
	d := made(t, 64)
	put(t, d, "a", "xy")
	for range 2 {
		is(t, "P13.1: Sync of none", d.Sync("none"), api.ENONE)
		is(t, "P13.1: Drop of none", d.Drop("none"), api.ENONE)
		if b, e := d.Read("none"); e != api.ENONE || len(b) != 0 {
			t.Errorf("P13.1: Read of none: %q, %d", b, e)
		}
		is(t, "P13.1: Rename of none", d.Rename("none", "a"), api.ENONE)
		is(t, "P13.1: Rename of none to none", d.Rename("none", "c"), api.ENONE)
		is(t, "P13.1: Rename of none over itself", d.Rename("none", "none"), api.ENONE)
	}
	holds(t, "R3: behind files that are not there", d, map[string]string{"a": "xy"})
}

func TestDrop(t *testing.T) {
	d := made(t, 64)
	put(t, d, "a", "xy", "z")
	put(t, d, "b", "w")
	ok(t, "Sync", d.Sync("a"))
	ok(t, "Drop of a safe file", d.Drop("a"))
	holds(t, "P13.1: Drop", d, map[string]string{"b": "w"})
	is(t, "P13.1: Drop again", d.Drop("a"), api.ENONE)
	put(t, d, "a", "new")
	holds(t, "P13.1: a file made again", d, map[string]string{"a": "new", "b": "w"})
	ok(t, "Drop of a file that is not safe", d.Drop("a"))
	ok(t, "Drop", d.Drop("b"))
	holds(t, "P13.1: Drop of all", d, nil)
}

func TestRename(t *testing.T) {
	d := made(t, 64)
	put(t, d, "a", "xy", "z")
	put(t, d, "b", "other")
	put(t, d, "c", "w")
	ok(t, "over itself", d.Rename("a", "a"))
	holds(t, "P13.1: Rename over itself", d, map[string]string{"a": "xyz", "b": "other", "c": "w"})
	ok(t, "over nothing", d.Rename("a", "d"))
	holds(t, "P13.1: Rename over nothing", d, map[string]string{"d": "xyz", "b": "other", "c": "w"})
	ok(t, "over a file", d.Rename("d", "b"))
	holds(t, "P13.1: Rename over a file", d, map[string]string{"b": "xyz", "c": "w"})
	put(t, d, "b", "!")
	put(t, d, "d", "new")
	holds(t, "P13.1: writes behind a Rename", d, map[string]string{"b": "xyz!", "c": "w", "d": "new"})
	ok(t, "there", d.Rename("b", "a"))
	ok(t, "and back", d.Rename("a", "b"))
	holds(t, "P13.1: Rename there and back", d, map[string]string{"b": "xyz!", "c": "w", "d": "new"})
	ok(t, "Append of none", d.Append("a", nil))
	ok(t, "an empty file over another", d.Rename("a", "b"))
	holds(t, "P13.1: Rename of an empty file", d, map[string]string{"b": "", "c": "w", "d": "new"})
}

func TestRenameWithWrongNames(t *testing.T) {
	d := made(t, 64)
	put(t, d, "a", "xy")
	put(t, d, "b", "z")
	for _, c := range []struct {
		old, name string
		want      api.Errno
	}{{"", "a", api.EARG}, {"a", "", api.EARG}, {"", "", api.EARG}, {" ", "b", api.EARG}, {"a", " ", api.EARG}, {"none", " ", api.EARG}, {" ", "none", api.EARG}, {"none", "a", api.ENONE}, {"none", "new", api.ENONE}, {"none", "none", api.ENONE}} {
		is(t, "P13.1: Rename of "+strconv.Quote(c.old)+" to "+strconv.Quote(c.name), d.Rename(c.old, c.name), c.want)
		holds(t, "R3: a Rename that was refused", d, map[string]string{"a": "xy", "b": "z"})
	}
}

func TestManyFiles(t *testing.T) {
	d := made(t, 1<<20)
	for i := range 3000 {
		ok(t, "Append", d.Append("f"+strconv.Itoa(i), []byte(strconv.Itoa(i))))
	}
	size := 0
	for i := range 3000 {
		want := strconv.Itoa(i)
		size += len(want)
		if b, e := d.Read("f" + want); e != api.OK || string(b) != want {
			t.Fatalf("P13.1: file %d: %q, %d", i, b, e)
		}
	}
	if d.Size() != size {
		t.Errorf("P13.1: Size is %d; wanted is %d", d.Size(), size)
	}
}

// A disk that is filled byte by byte must not take a time that grows with the square of its bytes.
func TestManySmallWrites(t *testing.T) {
	d := made(t, 1<<20)
	want := make([]byte, 1<<20)
	for i := range want {
		want[i] = byte(i * 7)
		if e := d.Append("a", want[i:i+1]); e != api.OK {
			t.Fatalf("P13.1: write %d: %d", i, e)
		}
	}
	if e := d.Append("a", []byte{1}); e != api.EFULL {
		t.Errorf("P13.1: one more: %d", e)
	}
	if b, e := d.Read("a"); e != api.OK || !bytes.Equal(b, want) {
		t.Errorf("P13.1: Read of small writes: %d bytes, %d", len(b), e)
	}
}
