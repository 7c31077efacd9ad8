package journal_test

import (
	"bytes"
	"testing"

	"bandbox/api"
)

func scribble(b []byte) {
	b = b[:cap(b)]
	for i := range b {
		b[i] = 0xee
	}
}

func scribbleAll(recs [][]byte) {
	recs = recs[:cap(recs)]
	for i := range recs {
		scribble(recs[i])
		recs[i] = []byte("scribbled")
	}
}

func TestWhatIsHandedInIsNotChanged(t *testing.T) {
	row := []byte("annbobcyd..............................")
	before := bytes.Clone(row)
	recs := [][]byte{row[:3], row[3:6], nil, row[6:6], row[6:9], row[20:]}
	heads := append([][]byte(nil), recs...)
	d, j := made(t, 200)
	ok(t, "P14.1: Add", j.Add(recs[:5]...))
	ok(t, "P14.1: Sync", j.Sync())
	ok(t, "P14.1: Keep", j.Keep(row[:6]))
	ok(t, "P14.1: Add", j.Add(recs[:2]...))
	is(t, "P14.1: Keep of too much", j.Keep(append(row[:9:9], make([]byte, api.MaxPlain)...)), api.ELIMIT)
	is(t, "P14.1: Add of too much", j.Add(append(recs[:1:1], make([]byte, 300))...), api.EFULL)
	j = fall(t, d, 1, 0)
	scribbleAll(j.All())
	scribble(j.Base())
	holds(t, "P14.2: behind a crash", j, "annbob", "ann")
	if !bytes.Equal(row, before) {
		t.Errorf("R4: what was handed in is now %q", row)
	}
	for i, rec := range heads {
		if len(rec) != len(recs[i]) || (rec == nil) != (recs[i] == nil) || len(rec) > 0 && &rec[0] != &recs[i][0] {
			t.Errorf("R4: the list that was handed in has another record %d", i)
		}
	}
}

func TestWhatIsHandedInIsNotKept(t *testing.T) {
	d, j := made(t, 1000)
	row := []byte("annbobcyd")
	recs := [][]byte{row[:3], row[3:6], row[6:6], row[6:9]}
	base := []byte("base and more")
	ok(t, "P14.1: Keep", j.Keep(base[:4]))
	ok(t, "P14.1: Add", j.Add(recs...))
	scribble(base)
	scribbleAll(recs)
	scribble(row)
	holds(t, "R4: what was handed in is written into", j, "base", "ann", "bob", "", "cyd")
	add(t, j, "dan")
	holds(t, "R4: the same, behind another Add", j, "base", "ann", "bob", "", "cyd", "dan")
	holds(t, "R4: the same, opened", opened(t, d), "base", "ann", "bob", "", "cyd", "dan")
}

func TestAnswersAreNewMemory(t *testing.T) {
	d, j := made(t, 4096)
	ok(t, "P14.1: Keep", j.Keep([]byte("base")))
	ok(t, "P14.1: Add", j.Add(lists("ann", "", "bob", "cyd")...))
	for range 2 {
		one, two := j.All(), j.All()
		first, second := j.Base(), j.Base()
		for i := range one {
			_ = append(one[i], "behind it, and more of it"...)
			_ = append(one[i][:0], "ahead"...)
		}
		_ = append(one, []byte("a record more"))
		_ = append(first, "behind it, and more of it"...)
		if string(two[0])+string(two[1])+string(two[2])+string(two[3])+string(second) != "annbobcydbase" {
			t.Errorf("R4: what one answer was appended to reached another: %q, %q", two, second)
		}
		scribbleAll(one)
		scribble(first)
		if len(two) != 4 || string(two[0])+string(two[1])+string(two[2])+string(two[3])+string(second) != "annbobcydbase" {
			t.Errorf("R4: two answers share memory: %q, %q", two, second)
		}
		holds(t, "R4: an answer is written into", j, "base", "ann", "", "bob", "cyd")
		j = opened(t, d)
	}
	scribbleAll(j.All())
	scribble(j.Base())
	holds(t, "R4: an answer is written into, opened", opened(t, d), "base", "ann", "", "bob", "cyd")
}

// No two records of one answer share memory, the spare room of one neither.
func TestRecordsOfOneAnswerShareNothing(t *testing.T) {
	d, j := made(t, 4096)
	same := []byte("ann")
	ok(t, "P14.1: Add", j.Add(same, same, nil, []byte("bob"), same[:0], same))
	for range 2 {
		all := j.All()
		for i := range all {
			want := texts(all)
			scribble(all[i])
			want[i] = string(all[i])
			for k, s := range texts(all) {
				if s != want[k] {
					t.Fatalf("R4: record %d was written into, and record %d is %q", i, k, s)
				}
			}
			_ = append(all[i], "behind it, and more of it"...)
			for k, s := range texts(all) {
				if s != want[k] {
					t.Fatalf("R4: record %d was appended to, and record %d is %q", i, k, s)
				}
			}
		}
		j = opened(t, d)
	}
}

// What comes later must not be seen in an answer that was told ahead of it, in its spare room neither.
func TestAnswersDoNotHangOnWhatComesLater(t *testing.T) {
	d, j := made(t, 4096)
	ok(t, "P14.1: Keep", j.Keep([]byte("base")))
	add(t, j, "ann", "bob", "cyd")
	all, base := j.All(), j.Base()
	spare, beside := len(all[:cap(all)]), bytes.Clone(base[:cap(base)])
	add(t, j, "dan", "eve")
	ok(t, "P14.1: Keep", j.Keep([]byte("esab")))
	add(t, j, "fay")
	fall(t, d, 0, 0)
	if len(texts(all)) != 3 || all[0] == nil || string(all[0])+string(all[1])+string(all[2]) != "annbobcyd" || !bytes.Equal(base[:cap(base)], beside) {
		t.Errorf("R4: answers are now %q, %q", all, base)
	}
	for _, rec := range all[3:spare] {
		if rec != nil {
			t.Errorf("R4: the spare room of an answer has %q", rec)
		}
	}
}

func TestNilAndAnEmptyListAreOne(t *testing.T) {
	d, x := made(t, 4096)
	e, y := made(t, 4096)
	ok(t, "P14.1: Keep of nil", x.Keep(nil))
	ok(t, "P14.1: Keep of no bytes", y.Keep([]byte{}))
	for range 2 {
		ok(t, "P14.1: Add of nil", x.Add(nil, []byte("a"), nil))
		ok(t, "P14.1: Add of no bytes", y.Add([]byte{}, []byte("a"), []byte{}))
	}
	ok(t, "P14.1: Add of a nil list", x.Add([][]byte(nil)...))
	ok(t, "P14.1: Add of an empty list", y.Add([][]byte{}...))
	holds(t, "R4: nil", x, "", "", "a", "", "", "a", "")
	holds(t, "R4: no bytes", y, "", "", "a", "", "", "a", "")
	if d.Size() != e.Size() {
		t.Errorf("R4: nil takes %d bytes, an empty list %d", d.Size(), e.Size())
	}
	holds(t, "R4: nil, behind a crash", fall(t, d, 31, 1), "", "", "a", "", "")
	holds(t, "R4: no bytes, behind a crash", fall(t, e, 31, 1), "", "", "a", "", "")
}

func TestJournalsHaveNothingToDoWithOneAnother(t *testing.T) {
	d, x := made(t, 4096)
	e, y := made(t, 100)
	add(t, x, "ann", "bob")
	ok(t, "P14.1: Keep", y.Keep([]byte("base")))
	add(t, y, "cyd")
	holds(t, "R5: one journal", x, "", "ann", "bob")
	holds(t, "R5: another", y, "base", "cyd")
	is(t, "P14.1: Keep of more than there is room for", y.Keep(make([]byte, 100)), api.EFULL)
	ok(t, "P14.1: Sync", x.Sync())
	e.Crash(0, 0)
	if x.Done() || !y.Done() {
		t.Errorf("R5: Done is %v, %v", x.Done(), y.Done())
	}
	add(t, x, "dan")
	holds(t, "R5: one journal", x, "", "ann", "bob", "dan")
	e.On()
	holds(t, "R5: another, behind a crash", opened(t, e), "base")
	holds(t, "R5: one journal, behind a crash", fall(t, d, 0, 0), "", "ann", "bob")
}

func TestTheSameCallsTellTheSame(t *testing.T) {
	tell := func() string {
		d, j := made(t, 4096)
		ok(t, "P14.1: Keep", j.Keep([]byte("base")))
		add(t, j, "ann", "bob", "cyd", "dan")
		j = fall(t, d, 11, 2)
		add(t, j, "eve")
		return short(string(j.Base()), texts(j.All())) + picture(d)
	}
	first := tell()
	for range 20 {
		if again := tell(); again != first {
			t.Fatalf("R5: %q, and %q", first, again)
		}
	}
}
