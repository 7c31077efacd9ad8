package journal_test

import (
	"bytes"
	"strings"
	"testing"

	"bandbox/api"
	"bandbox/disk"
	"bandbox/journal"
)

// made is a disk of that room, and its journal.
func made(t *testing.T, room int) (*disk.Disk, *journal.Journal) {
	t.Helper()
	d, e := disk.New(room)
	ok(t, "disk.New", e)
	return d, opened(t, d)
}

func opened(t *testing.T, d *disk.Disk) *journal.Journal {
	t.Helper()
	j, e := journal.Open(d)
	if e != api.OK || j == nil {
		t.Fatalf("P14.1: Open: %d", e)
	}
	if j.Done() {
		t.Fatalf("P14.1: Open: it is done")
	}
	return j
}

// fall is the journal behind a crash.
func fall(t *testing.T, d *disk.Disk, keep uint64, torn int) *journal.Journal {
	t.Helper()
	d.Crash(keep, torn)
	d.On()
	return opened(t, d)
}

func is(t *testing.T, what string, got, want api.Errno) {
	t.Helper()
	if got != want {
		t.Fatalf("%s: %d, wanted is %d", what, got, want)
	}
}

func ok(t *testing.T, what string, got api.Errno) {
	t.Helper()
	is(t, what, got, api.OK)
}

// lists are texts as bytes.
func lists(texts ...string) [][]byte {
	out := make([][]byte, len(texts))
	for i, s := range texts {
		out[i] = []byte(s)
	}
	return out
}

// add adds texts, each by a call of its own.
func add(t *testing.T, j *journal.Journal, texts ...string) {
	t.Helper()
	for _, s := range texts {
		ok(t, "P14.1: Add", j.Add([]byte(s)))
	}
}

// same tells whether a journal has that base, and those records.
func same(j *journal.Journal, base string, recs []string) bool {
	all := j.All()
	if string(j.Base()) != base || len(all) != len(recs) {
		return false
	}
	for i, rec := range recs {
		if string(all[i]) != rec {
			return false
		}
	}
	return true
}

func holds(t *testing.T, what string, j *journal.Journal, base string, recs ...string) {
	t.Helper()
	if !same(j, base, recs) {
		t.Fatalf("%s: %s; wanted are %s", what, short(string(j.Base()), texts(j.All())), short(base, recs))
	}
}

func texts(recs [][]byte) []string {
	var out []string
	for _, rec := range recs {
		out = append(out, string(rec))
	}
	return out
}

// short tells a base and records in few digits.
func short(base string, recs []string) string {
	s := cut(base) + "|"
	for _, rec := range recs {
		s += cut(rec) + ","
	}
	return cut(s)
}

func cut(s string) string {
	if len(s) > 200 {
		return s[:200] + ".."
	}
	return s
}

// part is how the journal writes things: a mark, the length in three bytes, the highest first, and the bytes.
func part(mark byte, s string) string {
	n := len(s)
	return string([]byte{mark, byte(n >> 16), byte(n >> 8), byte(n)}) + s
}

func noughts(n int) string { return strings.Repeat("\x00", n) }

// files are the names that the journal writes to, and one more.
func files() []string {
	return []string{"journal0", "journal1", "journal2", "journal3", "journal4", "new", "other"}
}

// disked is a disk with just those files, all of them safe.
func disked(t *testing.T, room int, files map[string]string) *disk.Disk {
	t.Helper()
	d, e := disk.New(room)
	ok(t, "disk.New", e)
	for name, s := range files {
		ok(t, "disk's Append", d.Append(name, []byte(s)))
		ok(t, "disk's Sync", d.Sync(name))
	}
	return d
}

// picture is what a disk has.
func picture(d *disk.Disk) string {
	var b bytes.Buffer
	for _, name := range files() {
		if s, e := d.Read(name); e == api.OK {
			b.WriteString(name + "=" + string(s) + ";")
		}
	}
	return b.String()
}

// paper is a journal by its promises alone: what was added since the base, and what it took to add it.
type paper struct {
	base  string
	recs  []string
	safe  int // how many of them
	spent int // bytes of the records since the base, each with 64 more, lost ones too
}

func (p *paper) add(recs ...string) {
	p.recs = append(p.recs, recs...)
	for _, rec := range recs {
		p.spent += len(rec) + 64
	}
}

func (p *paper) keep(base string) { *p = paper{base: base} }

func (p *paper) sync() { p.safe = len(p.recs) }

// fits tells whether the disk may not be found full when so many bytes, with what comes to them, come to it.
func (p *paper) fits(room, more int) bool { return len(p.base)+64+p.spent+more <= room }

// crash loses what is lost: from the first record that does not stay on, and the last one that stays, if it is torn.
func (p *paper) crash(keep uint64, torn int) {
	stays := func(i int) bool { return i < p.safe || keep&(1<<min(i-p.safe, 63)) != 0 }
	first := 0
	for first < len(p.recs) && stays(first) {
		first++
	}
	torn = max(torn, 0)
	for i := len(p.recs) - 1; i >= p.safe && torn > 0; i-- {
		if stays(i) {
			first = min(first, i)
			torn = 0
		}
	}
	p.recs = p.recs[:first]
	p.sync()
}
