package journal_test

import (
	"strings"
	"testing"

	"bandbox/api"
	"bandbox/disk"
	"bandbox/journal"
)

func TestExample(t *testing.T) {
	d, j := made(t, 4096)
	add(t, j, "ann")
	ok(t, "P14.1: Sync", j.Sync())
	add(t, j, "bob")
	j = fall(t, d, 0, 0)
	holds(t, "P14.2: the chapter's example", j, "", "ann")
}

func TestOpenOfAnEmptyDisk(t *testing.T) {
	for _, room := range []int{64, 65, 4096, 1 << 20} {
		d, j := made(t, room)
		holds(t, "P14.1: at first", j, "")
		if d.Size() != 0 {
			t.Errorf("P14.1: Open of an empty disk wrote %d bytes", d.Size())
		}
		ok(t, "P14.1: Sync of nothing", j.Sync())
		ok(t, "P14.1: Add of no record", j.Add())
		holds(t, "P14.1: Add of no record", j, "")
		holds(t, "P14.1: Open again", opened(t, d), "")
		holds(t, "P14.2: Open behind a crash", fall(t, d, 0, 0), "")
		if d.Size() != 0 {
			t.Errorf("P14.1: what nothing was added to has %d bytes", d.Size())
		}
	}
}

func TestOpenWithoutPower(t *testing.T) {
	d, j := made(t, 4096)
	add(t, j, "ann")
	d.Crash(1, 0)
	k, e := journal.Open(d)
	if k != nil || e != api.EOFF {
		t.Errorf("P14.1: Open without power: %v, %d", k, e)
	}
	d.On()
	holds(t, "R3: Open, refused without power, changed something", opened(t, d), "", "ann")
	other := disked(t, 64, map[string]string{"other": "x"})
	other.Crash(0, 0)
	if k, e = journal.Open(other); k != nil || e != api.EOFF {
		t.Errorf("R6: Open without power, of another's files: %v, %d", k, e)
	}
	other.On()
	if k, e = journal.Open(other); k != nil || e != api.EFORM {
		t.Errorf("P14.1: Open of another's files: %v, %d", k, e)
	}
}

func TestAdd(t *testing.T) {
	d, j := made(t, 100000)
	ok(t, "P14.1: Add of one", j.Add([]byte("ann")))
	holds(t, "P14.1: Add of one", j, "", "ann")
	ok(t, "P14.1: Add of several", j.Add([]byte("bob"), nil, []byte("cyd"), []byte("bob")))
	holds(t, "P14.1: Add of several", j, "", "ann", "bob", "", "cyd", "bob")
	ok(t, "P14.1: Add of no record", j.Add())
	ok(t, "P14.1: Add of a nil list", j.Add([][]byte(nil)...))
	holds(t, "P14.1: Add of no record", j, "", "ann", "bob", "", "cyd", "bob")
	most := strings.Repeat("m", api.MaxRecord)
	ok(t, "P14.1: Add of the most", j.Add([]byte(most), []byte(most)))
	holds(t, "P14.1: Add of the most", j, "", "ann", "bob", "", "cyd", "bob", most, most)
	holds(t, "P14.1: Open behind Add", opened(t, d), "", "ann", "bob", "", "cyd", "bob", most, most)
}

func TestAddOfTooMuch(t *testing.T) {
	d, j := made(t, 100000)
	add(t, j, "ann")
	before := picture(d)
	long := make([]byte, api.MaxRecord+1)
	is(t, "P14.1: Add of one byte more", j.Add(long), api.ELIMIT)
	is(t, "P14.1: the first is too long", j.Add(long, []byte("bob")), api.ELIMIT)
	is(t, "P14.1: the last is too long", j.Add([]byte("bob"), []byte("cyd"), long), api.ELIMIT)
	is(t, "P14.1: one amid others is too long", j.Add([]byte("bob"), make([]byte, 1<<20), []byte("cyd")), api.ELIMIT)
	if j.Done() || picture(d) != before {
		t.Errorf("R3: Add of too much changed something")
	}
	holds(t, "P14.1: none is added", j, "", "ann")
	add(t, j, "bob")
	holds(t, "P14.1: Add behind one that was refused", j, "", "ann", "bob")
	holds(t, "P14.1: the same, opened", opened(t, d), "", "ann", "bob")
}

func TestEachRecordIsAWrite(t *testing.T) {
	for n := range 4 {
		d, j := made(t, 4096)
		ok(t, "P14.1: Add of several", j.Add(lists("ann", "", "cyd")...))
		want := []string{"ann", "", "cyd"}[:n]
		holds(t, "P14.1: each one a write", fall(t, d, 1<<n-1, 0), "", want...)
	}
}

func TestSync(t *testing.T) {
	d, j := made(t, 4096)
	want := []string{}
	for _, s := range []string{"ann", "", "bob", "cyd"} {
		ok(t, "P14.1: Add", j.Add([]byte(s), []byte("x"+s)))
		ok(t, "P14.1: Sync", j.Sync())
		want = append(want, s, "x"+s)
		holds(t, "P14.1: Sync changed something", j, "", want...)
	}
	ok(t, "P14.1: Sync again", j.Sync())
	holds(t, "P14.1: all that were added are safe", fall(t, d, 0, 1000), "", want...)
}

func TestKeep(t *testing.T) {
	d, j := made(t, 200000)
	add(t, j, "ann", "bob")
	ok(t, "P14.1: Keep", j.Keep([]byte("base")))
	holds(t, "P14.1: behind Keep", j, "base")
	add(t, j, "cyd", "dan")
	holds(t, "P14.1: Add behind Keep", j, "base", "cyd", "dan")
	holds(t, "P14.1: the same, opened", opened(t, d), "base", "cyd", "dan")
	j = opened(t, d)
	for _, base := range []string{"", strings.Repeat("b", api.MaxPlain), "two", "", noughts(api.MaxPlain)} {
		add(t, j, "eve")
		ok(t, "P14.1: Keep", j.Keep([]byte(base)))
		holds(t, "P14.1: behind Keep", j, base)
		j = fall(t, d, 0, 5)
		holds(t, "P14.1: Keep is safe", j, base)
	}
}

func TestKeepOfTooMuch(t *testing.T) {
	d, j := made(t, 200000)
	ok(t, "P14.1: Keep", j.Keep([]byte("base")))
	add(t, j, "ann")
	before := picture(d)
	is(t, "P14.1: Keep of one byte more", j.Keep(make([]byte, api.MaxPlain+1)), api.ELIMIT)
	is(t, "P14.1: Keep of far more", j.Keep(make([]byte, 1<<21)), api.ELIMIT)
	if j.Done() || picture(d) != before {
		t.Errorf("R3: Keep of too much changed something")
	}
	holds(t, "P14.1: Keep of too much", j, "base", "ann")
	holds(t, "P14.1: the same, behind a crash that lost nothing", fall(t, d, 1, 0), "base", "ann")
}

// What is behind a Keep takes no more room than the base: else the disk would be full some day.
func TestKeepLetsTheDiskBeSmall(t *testing.T) {
	d, j := made(t, 4096)
	ok(t, "P14.1: Keep", j.Keep([]byte("base")))
	size := d.Size()
	for range 1000 {
		add(t, j, "ann", "bob", "cyd")
		j = fall(t, d, 2, 0) // a lost one, so that there is more than one file
		add(t, j, "dan")
		ok(t, "P14.1: Keep", j.Keep([]byte("esab")))
		if d.Size() != size {
			t.Fatalf("P14.1: behind Keep the disk has %d bytes, %d at first", d.Size(), size)
		}
	}
}

// ways are the ways of being done.
func ways() map[string]func(d *disk.Disk, j *journal.Journal) {
	return map[string]func(d *disk.Disk, j *journal.Journal){
		"without power":    func(d *disk.Disk, j *journal.Journal) { d.Crash(1, 0) },
		"behind a crash":   func(d *disk.Disk, j *journal.Journal) { d.Crash(1, 0); d.On() },
		"behind two":       func(d *disk.Disk, j *journal.Journal) { d.Crash(1, 0); d.On(); d.Crash(0, 0); d.On() },
		"the power was on": func(d *disk.Disk, j *journal.Journal) { d.On() },
		"full by Add":      func(d *disk.Disk, j *journal.Journal) { j.Add(make([]byte, 1000)) },
		"full by Keep":     func(d *disk.Disk, j *journal.Journal) { j.Keep(make([]byte, 1000)) },
	}
}

func TestDone(t *testing.T) {
	for what, way := range ways() {
		d, j := made(t, 1000)
		ok(t, "P14.1: Keep", j.Keep([]byte("base")))
		add(t, j, "ann", "bob")
		if j.Done() {
			t.Fatalf("P14.1: done at first")
		}
		way(d, j)
		for range 2 {
			if !j.Done() {
				t.Errorf("P14.1: %s: it is not done", what)
			}
			is(t, "P14.1: done "+what+": Add", j.Add([]byte("cyd")), api.EOFF)
			is(t, "P14.1: done "+what+": Add of no record", j.Add(), api.EOFF)
			is(t, "P14.1: done "+what+": Sync", j.Sync(), api.EOFF)
			is(t, "P14.1: done "+what+": Keep", j.Keep([]byte("x")), api.EOFF)
			is(t, "P14.1: done "+what+": Keep of no bytes", j.Keep(nil), api.EOFF)
			is(t, "R6: done "+what+": Add of too much", j.Add(make([]byte, api.MaxRecord+1)), api.ELIMIT)
			is(t, "R6: done "+what+": Keep of too much", j.Keep(make([]byte, api.MaxPlain+1)), api.ELIMIT)
			holds(t, "P14.1: done "+what+": it goes on telling", j, "base", "ann", "bob")
		}
	}
}

// Who is done is done for ever, and has changed nothing that another one finds.
func TestDoneForEver(t *testing.T) {
	for what, way := range ways() {
		d, j := made(t, 1000)
		ok(t, "P14.1: Keep", j.Keep([]byte("base")))
		add(t, j, "ann", "bob")
		ok(t, "P14.1: Sync", j.Sync())
		way(d, j)
		j.Add([]byte("cyd"))
		j.Keep([]byte("other"))
		j.Sync()
		if !d.Power() {
			d.On()
		}
		k := opened(t, d)
		holds(t, "R3: done "+what+", opened", k, "base", "ann", "bob")
		add(t, k, "dan")
		if !j.Done() {
			t.Errorf("P14.1: %s: it is not done any more", what)
		}
		holds(t, "P14.1: done "+what+": it goes on telling", j, "base", "ann", "bob")
		holds(t, "P14.1: behind one that is done", k, "base", "ann", "bob", "dan")
		if k.Done() {
			t.Errorf("P14.1: %s: the next one is done, too", what)
		}
	}
}

// Nothing is said of an elder journal, but that it must not panic.
func TestElderJournalsEnd(t *testing.T) {
	for n := range 3 {
		d, j := made(t, 4096)
		add(t, j, "ann", "bob", "cyd")
		elder := fall(t, d, 4, 0)
		add(t, elder, "dan")
		newer := opened(t, d)
		if n > 0 {
			ok(t, "P14.1: Keep", newer.Keep([]byte("base")))
		}
		if n > 1 {
			ok(t, "disk's Drop", d.Drop("journal0"))
		}
		elder.Sync()
		elder.Add([]byte("eve"), nil)
		elder.Sync()
		elder.Keep([]byte("x"))
		elder.Add([]byte("eve"))
		newer.Keep(nil)
		newer.Add([]byte("fay"))
		elder.Keep(nil)
		newer.Sync()
		if _, e := journal.Open(d); e != api.OK && e != api.EFORM {
			t.Errorf("P14.1: Open: %d", e)
		}
	}
}
