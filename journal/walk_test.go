package journal_test

import (
	"math"
	"math/rand"
	"testing"

	"bandbox/api"
	"bandbox/disk"
	"bandbox/journal"
)

// fallen is a journal that falls with its disk, is opened anew, and is held against paper.
type fallen struct {
	t *testing.T
	d *disk.Disk
	j *journal.Journal
	p *paper
}

func started(t *testing.T, room int) *fallen {
	t.Helper()
	d, j := made(t, room)
	return &fallen{t: t, d: d, j: j, p: &paper{}}
}

func (f *fallen) add(recs ...string) {
	f.t.Helper()
	add(f.t, f.j, recs...)
	f.p.add(recs...)
}

func (f *fallen) sync() {
	f.t.Helper()
	ok(f.t, "P14.1: Sync", f.j.Sync())
	f.p.sync()
}

func (f *fallen) keep(base string) {
	f.t.Helper()
	ok(f.t, "P14.1: Keep", f.j.Keep([]byte(base)))
	f.p.keep(base)
}

// open opens it without a crash: what it has is safe then.
func (f *fallen) open(what string) {
	f.t.Helper()
	f.j = opened(f.t, f.d)
	f.p.sync()
	holds(f.t, "P14.2: "+what, f.j, f.p.base, f.p.recs...)
}

func (f *fallen) crash(what string, keep uint64, torn int) {
	f.t.Helper()
	f.d.Crash(keep, torn)
	f.p.crash(keep, torn)
	f.d.On()
	f.open(what)
}

// anyText is a text that may look like what the journal writes itself.
func anyText(r *rand.Rand, most int) string {
	n := r.Intn(most + 1)
	b := make([]byte, n)
	for i := range b {
		b[i] = []byte{0, 0, 1, 1, 2, 3, 'a', 255}[r.Intn(8)]
	}
	switch r.Intn(6) {
	case 0:
		return part(1, string(b))
	case 1:
		return noughts(n)
	case 2:
		return part(2, string(b))
	}
	return string(b)
}

func anyTexts(r *rand.Rand, most int) []string {
	out := make([]string, r.Intn(4))
	for i := range out {
		out[i] = anyText(r, most)
	}
	return out
}

// judge holds what a call answered against what it may answer: that the disk is full, but not while all that comes to
// it fits.
func (f *fallen) judge(what string, e api.Errno, room, more int) bool {
	f.t.Helper()
	if e == api.OK {
		return true
	}
	is(f.t, what, e, api.EFULL)
	if f.p.fits(room, more) {
		f.t.Fatalf("%s: the disk is full, with %d bytes of base, %d of records, %d more, and room for %d", what, len(f.p.base), f.p.spent, more, room)
	}
	if !f.j.Done() || !same(f.j, f.p.base, f.p.recs) {
		f.t.Fatalf("%s: the disk is full: Done is %v, it has %s", what, f.j.Done(), short(string(f.j.Base()), texts(f.j.All())))
	}
	f.open(what + ": the disk is full")
	return false
}

// step does something to it.
func (f *fallen) step(r *rand.Rand, room int) {
	f.t.Helper()
	most := []int{3, 20, min(room/4, api.MaxRecord-4)}[r.Intn(3)]
	switch n := r.Intn(100); {
	case n < 45:
		recs := anyTexts(r, most)
		more := 0
		for _, rec := range recs {
			more += len(rec) + 64
		}
		if f.judge("P14.1: Add", f.j.Add(lists(recs...)...), room, more) {
			f.p.add(recs...)
		}
	case n < 60:
		f.sync()
	case n < 68:
		base := anyText(r, most)
		if f.judge("P14.1: Keep", f.j.Keep([]byte(base)), room, len(base)+64) {
			f.p.keep(base)
		}
	case n < 74:
		f.open("Open without a crash")
	case n < 78:
		is(f.t, "P14.1: Add of too much", f.j.Add([]byte("x"), make([]byte, api.MaxRecord+1)), api.ELIMIT)
		is(f.t, "P14.1: Keep of too much", f.j.Keep(make([]byte, api.MaxPlain+1)), api.ELIMIT)
	default:
		keep := r.Uint64() | r.Uint64()
		if r.Intn(4) == 0 {
			keep = 1<<r.Intn(10) - 1
		}
		f.crash("behind a crash", keep, []int{0, 0, 0, 1, 2, 3, 4, 5, 6, 100, -1, math.MaxInt, math.MinInt}[r.Intn(13)])
	}
}

func TestWalks(t *testing.T) {
	for seed := range int64(400) {
		r := rand.New(rand.NewSource(seed))
		room := []int{64, 65, 128, 150, 300, 1000, 5000, 70000}[seed%8]
		f := started(t, room)
		for range 300 {
			f.step(r, room)
			if !same(f.j, f.p.base, f.p.recs) {
				t.Fatalf("walk %d: %s; wanted are %s", seed, short(string(f.j.Base()), texts(f.j.All())), short(f.p.base, f.p.recs))
			}
		}
	}
}
