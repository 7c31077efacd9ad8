package journal_test

import (
	"fmt"
	"math"
	"testing"

	"bandbox/api"
)

// torns are numbers of bytes to be torn off what has up to most.
func torns(most int) []int {
	out := []int{0, -1, math.MinInt, math.MaxInt}
	for n := range most + 2 {
		out = append(out, n+1)
	}
	return out
}

// keeps are the choices of so many writes, and some bits that say nothing of them.
func keeps(writes int) []uint64 {
	out := []uint64{math.MaxUint64, 1 << 63, math.MaxUint64 << writes}
	for keep := range uint64(1) << writes {
		out = append(out, keep)
	}
	return out
}

// groups are records, of which some look like what the journal writes itself.
func groups() map[string][]string {
	return map[string][]string{
		"texts":        {"ann", "bob", "cyd", "dan", "eve"},
		"of no bytes":  {"", "", "", "", ""},
		"noughts":      {noughts(1), noughts(4), noughts(9), noughts(3), noughts(5)},
		"of all sizes": {"", "a", noughts(2), "ann", "", "anna"},
		"records":      {part(1, "x"), part(1, ""), part(1, part(1, "y")), part(1, "z") + part(1, "z"), part(1, "x")},
		"their heads":  {"\x01", "\x01\x00", "\x01\x00\x00", "\x01\x00\x00\x04", "\x01\x00\x00\x00\x01"},
		"bases":        {part(2, "x"), part(2, ""), "\x02", part(2, "x"), part(2, part(1, "x"))},
		"all kinds":    {"\xff\xff\xff\xff\xff", noughts(4) + part(1, "x"), part(2, "x") + noughts(5), "\x01", noughts(3)},
	}
}

// begin is a journal with a base, with records that are safe, and behind them some that are not.
func begin(t *testing.T, base string, recs []string, safe int) *fallen {
	t.Helper()
	f := started(t, 4096)
	if base != "" {
		f.keep(base)
	}
	f.add(recs[:safe]...)
	if safe > 0 {
		f.sync()
	}
	f.add(recs[safe:]...)
	return f
}

func TestCrashes(t *testing.T) {
	for what, recs := range groups() {
		for safe := range 3 {
			for _, keep := range keeps(len(recs) - safe) {
				for _, torn := range torns(12) {
					base := []string{"", "base", part(1, "b")}[safe]
					f := begin(t, base, recs, safe)
					f.crash(fmt.Sprintf("%s, %d safe, Crash(%b, %d)", what, safe, keep, torn), keep, torn)
					if len(f.p.recs) < safe {
						t.Fatalf("the test itself lost what was safe")
					}
				}
			}
		}
	}
}

// What a crash leaves behind is safe, and goes on.
func TestCrashesBehindCrashes(t *testing.T) {
	recs := groups()["all kinds"]
	for _, keep := range keeps(4) {
		for _, torn := range torns(14) {
			what := fmt.Sprintf("Crash(%b, %d)", keep, torn)
			f := begin(t, "base", recs, 1)
			f.crash(what, keep, torn)
			f.crash(what+", at once another", 0, math.MaxInt)
			f.add(recs[1], recs[3])
			f.crash(what+", all of two lost", 0, 0)
			f.add(recs[2], recs[0], recs[1])
			f.crash(what+", two of three lost", 4, 1)
			f.add("safe")
			f.sync()
			f.add(recs[0], recs[4])
			f.crash(what+", the last torn", 3, 1)
			f.crash(what+", nothing left to lose", math.MaxUint64, 3)
			f.keep("another")
			f.crash(what+", behind a Keep", 0, 2)
			f.add(recs...)
			f.crash(what+", behind a Keep and records", 27, 0)
		}
	}
}

// Crashes of which none leaves the journal's last file as it was.
func TestManySpoiltFiles(t *testing.T) {
	f := begin(t, "base", []string{"ann"}, 1)
	for n := range 60 {
		f.add(fmt.Sprint(n), "b", "c")
		f.crash("a file more", 5, n%3)
	}
	f.add("bob")
	f.sync()
	f.crash("the last file", 0, 9)
	f.keep("new")
	f.crash("behind Keep", 0, 9)
	for n := range 20 {
		f.add("x", fmt.Sprint(n))
		f.crash("files once more", 2, n%2)
	}
	f.crash("behind all", 0, 0)
}

// Of all writes from number 63 on one bit speaks.
func TestManyWrites(t *testing.T) {
	for _, n := range []int{62, 63, 64, 65, 66, 67, 130} {
		for _, keep := range []uint64{0, 1, math.MaxUint64, math.MaxUint64 >> 1, 1 << 63, math.MaxUint64 >> 2, 3 << 62, math.MaxUint64 ^ 1<<62, math.MaxUint64 ^ 1<<40} {
			for _, torn := range []int{0, 1, 4, 5, 6, 7, 8, math.MaxInt} {
				recs := []string{"safe"}
				for i := range n {
					recs = append(recs, fmt.Sprintf("%03d", i)[:1+i%3])
				}
				f := begin(t, "base", recs, 1)
				what := fmt.Sprintf("%d writes, Crash(%x, %d)", n, keep, torn)
				f.crash(what, keep, torn)
				f.add(recs[1:]...)
				f.crash(what+", twice", keep, torn)
			}
		}
	}
}

func TestCrashAmidAnAdd(t *testing.T) {
	for _, keep := range keeps(6) {
		f := begin(t, "", []string{"ann"}, 1)
		ok(t, "P14.1: Add", f.j.Add(lists("a", "b")...))
		ok(t, "P14.1: Add", f.j.Add(lists("c", "", "d", "e")...))
		f.p.add("a", "b", "c", "", "d", "e")
		f.crash(fmt.Sprintf("Crash(%b, 0)", keep), keep, 0)
	}
}

func TestOpenWithoutACrash(t *testing.T) {
	f := begin(t, "base", []string{"ann", "bob", "cyd"}, 1)
	f.open("what was not safe")
	f.crash("P14.2: what Open has is safe", 0, 9)
	f.add("dan", "eve")
	f.open("behind a crash")
	f.add("fay")
	f.d.On()
	f.open("an On with the power on")
	f.crash("P14.2: what Open has is safe", 0, 9)
	f.add("gil", "hal")
	f.crash("a spoilt file", 2, 0)
	f.add("ida")
	f.open("behind a spoilt file")
	f.crash("P14.2: what Open has is safe", 0, 9)
	f.open("at the end")
}

// A Keep that the disk has no room for leaves all as it was, whatever is lost then.
func TestKeepThatDidNotFit(t *testing.T) {
	for _, keep := range keeps(3) {
		for _, torn := range torns(7) {
			what := fmt.Sprintf("Crash(%b, %d)", keep, torn)
			f := begin(t, "base", []string{"ann", "bob", "cyd", "dan"}, 1)
			is(t, "P14.1: Keep of more than there is room for", f.j.Keep(make([]byte, 4096)), api.EFULL)
			if !same(f.j, f.p.base, f.p.recs) {
				t.Fatalf("P14.1: behind a Keep that did not fit: %s", short(string(f.j.Base()), texts(f.j.All())))
			}
			f.crash(what, keep, torn)
			f.add("eve")
			f.sync()
			is(t, "P14.1: Keep of more than there is room for", f.j.Keep(make([]byte, 5000)), api.EFULL)
			f.open(what + ", no crash behind Keep")
			f.keep("newer")
			f.crash(what+", the newer base", 0, 0)
		}
	}
}

// Of an Add that finds the disk full nothing is there, whichever of its records did not fit.
func TestAddThatDidNotFit(t *testing.T) {
	for n := range 3 {
		for _, keep := range keeps(2) {
			f := begin(t, "base", []string{"ann", "bob"}, 1)
			recs := lists("a", "b", "c")
			recs[n] = make([]byte, 4096)
			is(t, "P14.1: Add of more than there is room for", f.j.Add(recs...), api.EFULL)
			if !same(f.j, "base", []string{"ann", "bob"}) {
				t.Fatalf("P14.1: All tells of an Add that answered EFULL: %q", f.j.All())
			}
			if n == 1 {
				f.open("R3: opened behind an Add that did not fit")
			}
			f.crash("R3: an Add that did not fit", keep, 0)
			f.add("cyd")
			f.crash("behind an Add that did not fit", 1, 0)
		}
	}
}
