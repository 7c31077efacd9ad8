package disk_test

import (
	"math"
	"strconv"
	"strings"
	"testing"

	"bandbox/api"
	"bandbox/disk"
)

// one is a disk with one file of writes, the first of which is safe.
func one(t *testing.T, safe string, writes ...string) *disk.Disk {
	t.Helper()
	d := made(t, 4096)
	put(t, d, "a", safe)
	ok(t, "Sync", d.Sync("a"))
	put(t, d, "a", writes...)
	return d
}

func TestWhatStays(t *testing.T) {
	for keep, want := range []string{"s", "sab", "s00c", "sabc", "s000def", "sab0def", "s00cdef", "sabcdef"} {
		for _, more := range []uint64{0, 8, 1 << 40, 1 << 62, 1 << 63, math.MaxUint64 &^ 7} {
			d := one(t, "s", "ab", "c", "def")
			fall(d, uint64(keep)|more, 0)
			holds(t, "P13.2: Crash("+strconv.FormatUint(uint64(keep)|more, 2)+", 0)", d, map[string]string{"a": want})
		}
	}
}

func TestWritesOfNoBytesHaveNumbers(t *testing.T) {
	for keep, want := range []string{"", "", "ab", "ab", "00", "00", "ab", "ab"} {
		d := made(t, 64)
		put(t, d, "a", "", "ab", "")
		fall(d, uint64(keep), 0)
		holds(t, "P13.2: Crash("+strconv.Itoa(keep)+", 0)", d, map[string]string{"a": want})
	}
}

func TestFilesAreThereThoughTheirWritesAreLost(t *testing.T) {
	d := made(t, 64)
	put(t, d, "a", "")
	put(t, d, "b", "xy", "z")
	fall(d, 0, 0)
	holds(t, "P13.2: files are made at once", d, map[string]string{"a": "", "b": ""})
}

func TestCrashOfNoFile(t *testing.T) {
	for _, torn := range []int{0, 1, math.MaxInt, math.MinInt} {
		d := made(t, 64)
		fall(d, math.MaxUint64, torn)
		holds(t, "P13.2: a Crash of no file", d, nil)
	}
}

// Each file's writes have numbers of their own.
func TestCrashOfSeveralFiles(t *testing.T) {
	d := made(t, 64)
	put(t, d, "a", "ab", "cd")
	put(t, d, "b", "e")
	put(t, d, "c", "safe")
	ok(t, "Sync", d.Sync("c"))
	put(t, d, "d", "fg", "h", "ij")
	put(t, d, "a", "kl")
	put(t, d, "b", "mn")
	fall(d, 2, 1)
	holds(t, "P13.2: several files", d, map[string]string{"a": "00c", "b": "0m", "c": "safe", "d": "00"})
}

func TestTorn(t *testing.T) {
	for _, c := range []struct {
		keep uint64
		torn int
		want string
	}{
		{7, 0, "sabcdef"}, {7, 1, "sabcde"}, {7, 2, "sabcd"}, {7, 3, "sabc"}, {7, 4, "sabc"}, {7, 5, "sabc"}, {7, 99, "sabc"}, {7, math.MaxInt, "sabc"},
		{7, -1, "sabcdef"}, {7, -3, "sabcdef"}, {7, math.MinInt, "sabcdef"}, {7, -math.MaxInt, "sabcdef"},
		{3, 1, "sab"}, {3, 2, "sab"}, {1, 1, "sa"}, {1, 2, "s"}, {1, 3, "s"}, {1, math.MaxInt, "s"}, {1, -1, "sab"},
		{2, 1, "s00"}, {2, 9, "s00"}, {4, 1, "s000de"}, {4, 3, "s000"}, {4, 4, "s000"}, {4, math.MaxInt, "s000"}, {4, math.MinInt, "s000def"}, {5, 2, "sab0d"}, {6, 3, "s00c"},
		{0, 1, "s"}, {0, math.MaxInt, "s"}, {0, -1, "s"}, {8, 1, "s"}, {1 << 63, 1, "s"},
	} {
		d := one(t, "s", "ab", "c", "def")
		fall(d, c.keep, c.torn)
		holds(t, "P13.2: Crash("+strconv.FormatUint(c.keep, 10)+", "+strconv.Itoa(c.torn)+")", d, map[string]string{"a": c.want})
	}
}

// Where the last write that stays has no bytes, those ahead of it lose none.
func TestTornOfNoBytes(t *testing.T) {
	for keep, want := range map[uint64]string{1: "sa", 2: "s00", 3: "sab", 6: "s00", 7: "sab", 8: "s00c", 9: "sabc", 15: "sabc"} {
		d := one(t, "s", "ab", "", "", "cd")
		fall(d, keep, 1)
		holds(t, "P13.2: Crash("+strconv.FormatUint(keep, 10)+", 1)", d, map[string]string{"a": want})
	}
}

// many are n writes, the i-th of them i modulo 3 bytes long.
func many(n int) []string {
	out := make([]string, n)
	for i := range out {
		out[i] = strings.Repeat(string(rune('a'+i%26)), i%3)
	}
	return out
}

func TestWritesFromTheBit63On(t *testing.T) {
	keeps := []uint64{0, 1, 1 << 61, 1 << 62, 1 << 63, 1<<63 | 1, 1<<63 | 1<<62, 3 << 61, math.MaxUint64, math.MaxUint64 >> 1, math.MaxUint64 &^ 2, 0x5555555555555555, 0xaaaaaaaaaaaaaaaa}
	for _, n := range []int{1, 61, 62, 63, 64, 65, 66, 67, 68, 69, 70, 127, 128, 129, 130, 200} {
		for _, keep := range keeps {
			for _, torn := range []int{0, 1, 2, 3, math.MaxInt, math.MinInt} {
				d, p := made(t, 4096), newPaper(4096)
				for _, w := range many(n) {
					put(t, d, "a", w)
					p.Append("a", []byte(w))
				}
				fall(d, keep, torn)
				p.Crash(keep, torn)
				want := strings.ReplaceAll(string(whole(p.files["a"])), "\x00", "0")
				holds(t, "P13.2: "+strconv.Itoa(n)+" writes, Crash("+strconv.FormatUint(keep, 16)+", "+strconv.Itoa(torn)+")", d, map[string]string{"a": want})
			}
		}
	}
}

func TestSeventyWritesByHand(t *testing.T) {
	for _, c := range []struct {
		keep uint64
		torn int
		want string
	}{
		{1 << 63, 0, strings.Repeat("00", 63) + strings.Repeat("xy", 7)},
		{1 << 63, 1, strings.Repeat("00", 63) + strings.Repeat("xy", 6) + "x"},
		{1 << 63, 5, strings.Repeat("00", 63) + strings.Repeat("xy", 6)},
		{1 << 62, 1, strings.Repeat("00", 62) + "x"},
		{math.MaxUint64 >> 1, 0, strings.Repeat("xy", 63)},
		{math.MaxUint64, 0, strings.Repeat("xy", 70)},
		{1<<63 | 1, 0, "xy" + strings.Repeat("00", 62) + strings.Repeat("xy", 7)},
		{0, 0, ""},
	} {
		d := made(t, 140)
		for range 70 {
			put(t, d, "a", "xy")
		}
		fall(d, c.keep, c.torn)
		holds(t, "P13.2: seventy writes, Crash("+strconv.FormatUint(c.keep, 16)+", "+strconv.Itoa(c.torn)+")", d, map[string]string{"a": c.want})
	}
}

func TestWhatIsThereBehindACrashIsSafe(t *testing.T) {
	d := one(t, "s", "ab", "c", "def")
	fall(d, 5, 1)
	for range 3 {
		holds(t, "P13.2: what is there is safe", d, map[string]string{"a": "sab0de"})
		fall(d, 0, 2)
	}
	fall(d, math.MaxUint64, 2)
	holds(t, "P13.2: what is there is not torn again", d, map[string]string{"a": "sab0de"})
}

func TestCrashWithoutPower(t *testing.T) {
	d := one(t, "s", "ab", "c")
	d.Crash(1, 1)
	d.Crash(0, 0)
	d.Crash(0, math.MaxInt)
	if d.Power() || d.Lives() != 1 {
		t.Errorf("P13.2: Power is %v, Lives is %d", d.Power(), d.Lives())
	}
	d.On()
	holds(t, "P13.2: Crash without power", d, map[string]string{"a": "sa"})
}

func TestWritesBehindAnOnAreNumberedFromNought(t *testing.T) {
	d := one(t, "s", "ab", "c")
	fall(d, 3, 0)
	put(t, d, "a", "de", "f", "gh")
	fall(d, 2, 0)
	holds(t, "P13.2: writes behind an On", d, map[string]string{"a": "sabc00f"})
	put(t, d, "a", "ij")
	fall(d, 1, 1)
	holds(t, "P13.2: writes behind another On", d, map[string]string{"a": "sabc00fi"})
	put(t, d, "a", "kl")
	fall(d, 0, 0)
	holds(t, "P13.2: a write that is lost", d, map[string]string{"a": "sabc00fi"})
	put(t, d, "a", "mn")
	holds(t, "P13.2: a write behind what was lost", d, map[string]string{"a": "sabc00fimn"})
}

func TestSyncInTheMidst(t *testing.T) {
	d := made(t, 64)
	put(t, d, "a", "ab", "c")
	put(t, d, "b", "xy")
	ok(t, "Sync", d.Sync("a"))
	holds(t, "P13.1: Sync changes no bytes", d, map[string]string{"a": "abc", "b": "xy"})
	put(t, d, "a", "de", "f")
	fall(d, 2, 0)
	holds(t, "P13.2: a Sync in the midst", d, map[string]string{"a": "abc00f", "b": ""})
}

func TestSyncOfOneFileAlone(t *testing.T) {
	d := made(t, 64)
	put(t, d, "a", "ab")
	put(t, d, "b", "cd")
	ok(t, "Sync", d.Sync("b"))
	ok(t, "Sync again", d.Sync("b"))
	fall(d, 0, 9)
	holds(t, "P13.1: Sync of b", d, map[string]string{"a": "", "b": "cd"})
}

func TestARefusedSyncMakesNothingSafe(t *testing.T) {
	d := made(t, 64)
	put(t, d, "a", "ab")
	is(t, "P13.1: Sync of none", d.Sync("none"), api.ENONE)
	is(t, "P13.1: Sync of no name", d.Sync(""), api.EARG)
	fall(d, 0, 0)
	holds(t, "R3: behind a Sync that was refused", d, map[string]string{"a": ""})
}

// A refused call makes no write, so that it takes no number.
func TestARefusedAppendHasNoNumber(t *testing.T) {
	d := made(t, 64)
	put(t, d, "a", "ab")
	is(t, "P13.1: Append of too much", d.Append("a", make([]byte, 63)), api.EFULL)
	is(t, "P13.1: Append to no name", d.Append("a ", nil), api.EARG)
	put(t, d, "a", "c")
	fall(d, 2, 0)
	holds(t, "R3: behind an Append that was refused", d, map[string]string{"a": "00c"})
}

func TestReadsAndSizesMakeNothingSafe(t *testing.T) {
	d := made(t, 64)
	put(t, d, "a", "ab", "c")
	holds(t, "P13.1: Read", d, map[string]string{"a": "abc"})
	d.Power()
	d.Lives()
	fall(d, 2, 0)
	holds(t, "P13.2: behind a Read", d, map[string]string{"a": "00c"})
}

func TestRenameTakesItsWritesWithIt(t *testing.T) {
	for _, c := range []struct {
		keep uint64
		want string
	}{{0, "s"}, {1, "sab"}, {2, "s00c"}, {4, "s000d"}, {7, "sabcd"}} {
		d := one(t, "s", "ab", "c")
		put(t, d, "b", "other", "one")
		ok(t, "Sync", d.Sync("b"))
		ok(t, "Rename", d.Rename("a", "b"))
		put(t, d, "b", "d")
		fall(d, c.keep, 0)
		holds(t, "P13.1: Rename over a safe file, kept "+strconv.FormatUint(c.keep, 2), d, map[string]string{"b": c.want})
	}
}

func TestRenameOverAFileThatIsNotSafe(t *testing.T) {
	d := one(t, "s")
	put(t, d, "b", "other", "one")
	ok(t, "Rename", d.Rename("a", "b"))
	fall(d, 0, 0)
	holds(t, "P13.1: a safe file over another", d, map[string]string{"b": "s"})
}

func TestRenameOverItselfMakesNothingSafe(t *testing.T) {
	d := made(t, 64)
	put(t, d, "a", "ab")
	ok(t, "Rename", d.Rename("a", "a"))
	put(t, d, "a", "c")
	fall(d, 2, 0)
	holds(t, "P13.1: Rename over itself", d, map[string]string{"a": "00c"})
}

func TestDropAndRenameAreDoneAtOnce(t *testing.T) {
	d := made(t, 64)
	put(t, d, "a", "ab")
	put(t, d, "b", "cd")
	put(t, d, "c", "ef")
	for _, name := range []string{"a", "b", "c"} {
		ok(t, "Sync", d.Sync(name))
	}
	ok(t, "Drop", d.Drop("a"))
	ok(t, "Rename", d.Rename("b", "c"))
	ok(t, "Rename", d.Rename("c", "d"))
	fall(d, 0, 0)
	holds(t, "P13.1: Drop and Rename need no Sync", d, map[string]string{"d": "cd"})
}

func TestAFileMadeAgainHasNoOldWrites(t *testing.T) {
	d := made(t, 64)
	put(t, d, "a", "ab", "c")
	ok(t, "Drop", d.Drop("a"))
	put(t, d, "a", "d")
	put(t, d, "b", "e", "f")
	ok(t, "Rename", d.Rename("b", "c"))
	put(t, d, "b", "g")
	fall(d, 1, 0)
	holds(t, "P13.2: files made again", d, map[string]string{"a": "d", "b": "g", "c": "e"})
}

func TestRoomBehindACrash(t *testing.T) {
	d := made(t, 64)
	put(t, d, "a", strings.Repeat("x", 30), strings.Repeat("y", 30))
	fall(d, 1, 10)
	is(t, "P13.1: one too much behind a Crash", d.Append("b", make([]byte, 45)), api.EFULL)
	put(t, d, "b", strings.Repeat("z", 44))
	holds(t, "P13.2: room behind a Crash", d, map[string]string{"a": strings.Repeat("x", 20), "b": strings.Repeat("z", 44)})
}

func TestOnPowerAndLives(t *testing.T) {
	d := made(t, 64)
	lives := func(what string, power bool, n int) {
		t.Helper()
		if d.Power() != power || d.Lives() != n {
			t.Errorf("P13.2: %s: Power is %v, Lives is %d; wanted are %v, %d", what, d.Power(), d.Lives(), power, n)
		}
	}
	lives("a new disk", true, 1)
	put(t, d, "a", "xy", "z")
	d.On()
	lives("On with the power on", true, 2)
	holds(t, "P13.2: On with the power on", d, map[string]string{"a": "xyz"})
	d.Crash(2, 0)
	lives("Crash", false, 2)
	d.Crash(0, 0)
	lives("Crash again", false, 2)
	d.On()
	lives("On", true, 3)
	holds(t, "P13.2: On with the power on makes nothing safe", d, map[string]string{"a": "00z"})
	d.On()
	d.On()
	lives("On twice more", true, 5)
	d.Append("", nil)
	d.Drop("a")
	lives("other calls", true, 5)
}
