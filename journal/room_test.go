package journal_test

import (
	"math"
	"strings"
	"testing"

	"bandbox/api"
)

// fill does something again and again, till the disk is full, or is never to be; it must fit so many times at least. It
// answers how often all was well.
func fill(t *testing.T, what string, must int, do func() api.Errno) int {
	t.Helper()
	for n := range 3000 {
		if e := do(); e != api.OK {
			is(t, what, e, api.EFULL)
			if n < must {
				t.Fatalf("%s: the disk is full, time %d; %d must fit", what, n+1, must)
			}
			return n
		}
	}
	return 3000
}

func TestRoomForRecords(t *testing.T) {
	for _, room := range []int{64, 127, 128, 129, 200, 1000, 10000} {
		for _, size := range []int{0, 1, 10, 64, 100} {
			for _, base := range []string{"", "base"} {
				f := started(t, room)
				if base != "" && f.p.fits(room, len(base)+64) {
					f.keep(base)
				}
				rec := strings.Repeat("r", size)
				must := (room - len(f.p.base) - 64) / (size + 64)
				n := fill(t, "P14.1: Add", must, func() api.Errno { return f.j.Add([]byte(rec)) })
				is(t, "P14.1: Add behind EFULL", f.j.Add(), api.EOFF)
				is(t, "P14.1: Sync behind EFULL", f.j.Sync(), api.EOFF)
				is(t, "P14.1: Keep behind EFULL", f.j.Keep(nil), api.EOFF)
				for range n {
					f.p.add(rec)
				}
				f.open("behind a full disk")
				f.crash("a crash of a full disk", 0, 9)
				if f.d.Size() > room {
					t.Errorf("more than the disk has room for")
				}
			}
		}
	}
}

// Records that a crash took count as well, but no more than once.
func TestRoomBehindCrashes(t *testing.T) {
	for _, keep := range []uint64{0, 1, 2, 4, 5, 6, 1 << 63} {
		for _, torn := range []int{0, 1, 4, 1000} {
			f := begin(t, "base", nil, 0)
			room := 4096
			fill(t, "P14.1: Add amid crashes", (room-4-64)/(3*67), func() api.Errno {
				e := f.j.Add(lists("ann", "bob", "cyd")...)
				if e == api.OK {
					f.p.add("ann", "bob", "cyd")
					f.crash("Adds and crashes in turn", keep, torn)
				}
				return e
			})
			f.open("behind a full disk")
			f.crash("at the end", 0, 0)
		}
	}
}

func TestRoomForKeep(t *testing.T) {
	for _, room := range []int{128, 200, 256, 1000, 10000} {
		for recs := range 4 {
			most := (room - 2*64 - recs*67) / 2 // of the base, and of the next
			if most < 0 {
				continue
			}
			f := started(t, room)
			for n := range 20 {
				f.keep(strings.Repeat(string(rune('a'+n)), most))
				for range recs {
					f.add("ann")
				}
				if n%2 == 0 {
					f.crash("Keeps, Adds, and crashes in turn", 2, 0)
				}
			}
			f.keep("")
			f.keep(strings.Repeat("z", most))
			f.crash("at the end", 0, 0)
			fill(t, "P14.1: Keep of more and more", 0, func() api.Errno {
				most += 10
				base := strings.Repeat("m", most)
				e := f.j.Keep([]byte(base))
				if e == api.OK {
					f.p.keep(base)
				} else if f.p.fits(room, most+64) {
					t.Errorf("P14.1: Keep: the disk is full, with a base of %d bytes, another of %d, and room for %d", len(f.p.base), most, room)
				}
				return e
			})
			f.crash("behind a Keep that did not fit", math.MaxUint64, 0)
		}
	}
}

// Open writes nothing: what is on a full disk can always be read, and where there is room for another base it goes on.
func TestOpenOfAFullDisk(t *testing.T) {
	for room := 300; room < 320; room++ {
		for _, keep := range []uint64{math.MaxUint64, math.MaxUint64 - 8, math.MaxUint64 - 1, 0} {
			for _, torn := range []int{0, 1, 6} {
				f := started(t, room)
				f.keep("base")
				fill(t, "P14.1: Add", 0, func() api.Errno {
					e := f.j.Add([]byte("ann"))
					if e == api.OK {
						f.p.add("ann")
					}
					return e
				})
				f.crash("a crash of a full disk", keep, torn)
				size := f.d.Size()
				f.open("a full disk, again")
				if f.d.Size() != size {
					t.Errorf("P14.1: Open of a full disk: %d bytes, %d ahead of it", f.d.Size(), size)
				}
			}
		}
	}
}

// What does not fit is told by EFULL, and what fits then still fits.
func TestRoomOfOneWrite(t *testing.T) {
	for size := range 300 {
		f := started(t, 200)
		f.add("ann")
		e := f.j.Add(make([]byte, size))
		if e != api.OK && e != api.EFULL || f.j.Done() != (e == api.EFULL) {
			t.Fatalf("P14.1: Add of %d bytes: %d, Done is %v", size, e, f.j.Done())
		}
		if size > 200 && e == api.OK || size <= 200-3-3*64 && e != api.OK {
			t.Fatalf("P14.1: Add of %d bytes with room for 200: %d", size, e)
		}
	}
}

// A record that is handed in many times over takes no memory that the disk would have no room for anyway.
func TestFarTooManyRecords(t *testing.T) {
	d, j := made(t, 1<<20)
	add(t, j, "ann")
	rec := make([]byte, api.MaxRecord)
	recs := make([][]byte, 100000)
	for i := range recs {
		recs[i] = rec
	}
	is(t, "P14.1: Add of far too many", j.Add(recs...), api.EFULL)
	holds(t, "P14.1: Add of far too many", j, "", "ann")
	j = opened(t, d)
	holds(t, "P14.1: Add of far too many, opened", j, "", "ann")
	ok(t, "P14.1: Add of as many as fit", j.Add(recs[:63]...))
	if all := j.All(); len(all) != 64 || len(all[63]) != api.MaxRecord {
		t.Errorf("P14.1: Add of as many as fit: %d", len(all))
	}
}
