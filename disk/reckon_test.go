package disk_test

import (
	"bytes"
	"slices"
	"strings"
	"testing"

	"bandbox/api"
	"bandbox/disk"
)

// made is a new disk.
func made(t *testing.T, room int) *disk.Disk {
	t.Helper()
	d, e := disk.New(room)
	if e != api.OK || d == nil {
		t.Fatalf("P13.1: New(%d): %d", room, e)
	}
	return d
}

// put appends writes to a file, each of which must be taken.
func put(t *testing.T, d *disk.Disk, name string, writes ...string) {
	t.Helper()
	for _, w := range writes {
		ok(t, "Append", d.Append(name, []byte(w)))
	}
}

// ok fails where a call is refused.
func ok(t *testing.T, what string, e api.Errno) {
	t.Helper()
	if e != api.OK {
		t.Fatalf("P13.1: %s: %d", what, e)
	}
}

// is fails where a call answers another number.
func is(t *testing.T, what string, got, want api.Errno) {
	t.Helper()
	if got != want {
		t.Errorf("%s: %d, wanted is %d", what, got, want)
	}
}

// names are those that the tests give to files.
func names() []string { return []string{"a", "b", "c", "d", "new", "none"} }

// holds fails where the disk has other files of names() than those, or other bytes; noughts are written as '0'.
func holds(t *testing.T, what string, d *disk.Disk, files map[string]string) {
	t.Helper()
	size := 0
	for _, name := range names() {
		want, there := files[name]
		b, e := d.Read(name)
		got := strings.ReplaceAll(string(b), "\x00", "0")
		switch {
		case !there && (e != api.ENONE || len(b) != 0):
			t.Errorf("%s: %s is there: %q, %d", what, name, got, e)
		case there && (e != api.OK || got != want):
			t.Errorf("%s: %s is %q, %d; wanted is %q", what, name, got, e, want)
		}
		size += len(want)
	}
	if got := d.Size(); got != size {
		t.Errorf("%s: Size is %d; wanted is %d", what, got, size)
	}
}

// fall lets the power go and come back.
func fall(d *disk.Disk, keep uint64, torn int) {
	d.Crash(keep, torn)
	d.On()
}

// paper reckons a disk in another way: it keeps each write by itself, and all that was ever written of a file.
type paper struct {
	room  int
	files map[string][]entry
	power bool
	lives int
}

type entry struct {
	b    []byte
	safe bool
}

func newPaper(room int) *paper {
	return &paper{room: room, files: map[string][]entry{}, power: true, lives: 1}
}

func named(s string) bool {
	strange := func(r rune) bool {
		return !strings.ContainsRune("!\"#$%&'()*+,-./0123456789:;<=>?@ABCDEFGHIJKLMNOPQRSTUVWXYZ[\\]^_`abcdefghijklmnopqrstuvwxyz{|}~", r)
	}
	return s != "" && len(s) < 21 && !strings.ContainsFunc(s, strange)
}

func (p *paper) refusal(file string, all ...string) api.Errno {
	_, there := p.files[file]
	switch {
	case !p.power:
		return api.EOFF
	case !named(file) || slices.ContainsFunc(all, func(s string) bool { return !named(s) }):
		return api.EARG
	case !there:
		return api.ENONE
	}
	return api.OK
}

func (p *paper) Append(name string, b []byte) api.Errno {
	if e := p.refusal(name); e == api.EOFF || e == api.EARG {
		return e
	}
	if p.bytes()+len(b) > p.room {
		return api.EFULL
	}
	p.files[name] = append(slices.Clone(p.files[name]), entry{bytes.Clone(b), false})
	return api.OK
}

func (p *paper) Sync(name string) api.Errno {
	e := p.refusal(name)
	if e == api.OK {
		p.files[name] = []entry{{whole(p.files[name]), true}}
	}
	return e
}

func (p *paper) Read(name string) ([]byte, api.Errno) {
	e := p.refusal(name)
	if e != api.OK {
		return nil, e
	}
	return whole(p.files[name]), e
}

func (p *paper) Rename(old, name string) api.Errno {
	e := p.refusal(old, name)
	if e == api.OK {
		moved := p.files[old]
		delete(p.files, old)
		p.files[name] = moved
	}
	return e
}

func (p *paper) Drop(name string) api.Errno {
	e := p.refusal(name)
	if e == api.OK {
		delete(p.files, name)
	}
	return e
}

func (p *paper) Size() int {
	if !p.power {
		return 0
	}
	return p.bytes()
}

func (p *paper) Crash(keep uint64, torn int) {
	p.power = false
	for name, entries := range p.files {
		p.files[name] = []entry{{left(entries, keep, torn), true}}
	}
}

func (p *paper) On() {
	p.power = true
	p.lives++
}

func (p *paper) Power() bool { return p.power }

func (p *paper) Lives() int { return p.lives }

func (p *paper) bytes() int {
	n := 0
	for _, entries := range p.files {
		n += len(whole(entries))
	}
	return n
}

func whole(entries []entry) []byte {
	var b []byte
	for _, one := range entries {
		b = append(b, one.b...)
	}
	return b
}

// left reckons from the youngest write on: those that do not stay are left out till one does.
func left(entries []entry, keep uint64, torn int) []byte {
	at := 0
	for at < len(entries) && entries[at].safe {
		at++
	}
	safe, loose := whole(entries[:at]), entries[at:]
	stays := func(i int) bool {
		if i > 63 {
			i = 63
		}
		return keep&(1<<i) != 0
	}
	for len(loose) > 0 && !stays(len(loose)-1) {
		loose = loose[:len(loose)-1]
	}
	for i, one := range loose {
		b := bytes.Clone(one.b)
		if !stays(i) {
			b = make([]byte, len(b))
		}
		for n := torn; i == len(loose)-1 && n > 0 && len(b) > 0; n-- {
			b = b[:len(b)-1]
		}
		safe = append(safe, b...)
	}
	return safe
}
