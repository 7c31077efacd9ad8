package journal_test

import (
	"fmt"
	"strings"
	"testing"

	"bandbox/api"
	"bandbox/disk"
	"bandbox/journal"
)

// refused are files that no journal leaves.
func refused() map[string]map[string]string {
	one := part(1, "ann")
	spoilt := one + noughts(7) + one
	return map[string]map[string]string{
		"of another name":                      {"other": "x"},
		"of another name, a record":            {"other": one},
		"of another name beside it":            {"journal0": one, "other": "x"},
		"of another name beside a base":        {"journal0": part(2, "base"), "other": one},
		"of another name, noughts":             {"journal0": one, "other": noughts(4)},
		"of another name beside a spoilt one":  {"journal0": spoilt, "other": "x"},
		"of another name beside two":           {"journal0": spoilt, "journal1": one, "other": "x"},
		"a base that is not kept yet":          {"new": part(2, "base")},
		"the same beside an elder one":         {"journal0": part(2, "base"), "new": part(2, "other")},
		"records that are tried":               {"journal0": part(2, "base"), "new": one},
		"other bytes":                          {"journal0": "ann"},
		"one other byte":                       {"journal0": "x"},
		"other bytes behind a record":          {"journal0": one + "x"},
		"other bytes behind a base":            {"journal0": part(2, "base") + "x"},
		"other bytes behind noughts":           {"journal0": noughts(4) + "x"},
		"other bytes behind a spoilt record":   {"journal0": spoilt + "\x03"},
		"other bytes in the second":            {"journal0": spoilt, "journal1": "ann"},
		"a record cut off, and other bytes":    {"journal0": part(1, "anna")[:7] + one},
		"a record that is too long":            {"journal0": part(1, strings.Repeat("m", api.MaxRecord+1))},
		"the same, cut off":                    {"journal0": part(1, strings.Repeat("m", api.MaxRecord+1))[:100]},
		"its head alone":                       {"journal0": "\x01\x00\x40\x01"},
		"its head, cut off":                    {"journal0": "\x01\x00\x41"},
		"its head, cut off ahead":              {"journal0": "\x01\x01"},
		"one that is too long, behind noughts": {"journal0": noughts(9) + "\x01\x00\x40\x01"},
		"few noughts":                          {"journal0": noughts(3)},
		"one nought":                           {"journal0": noughts(1)},
		"few noughts behind a record":          {"journal0": one + noughts(3)},
		"few noughts behind a base":            {"journal0": part(2, "base") + noughts(2)},
		"few noughts ahead of a record":        {"journal0": noughts(3) + one},
		"few noughts in the second":            {"journal0": spoilt, "journal1": one + noughts(3)},
		"a base cut off":                       {"journal0": part(2, "base")[:7]},
		"a base's head alone":                  {"journal0": part(2, "base")[:4]},
		"a base's head, cut off":               {"journal0": part(2, "base")[:3]},
		"a base's mark":                        {"journal0": "\x02"},
		"a base behind a record":               {"journal0": one + part(2, "base")},
		"a base behind a base":                 {"journal0": part(2, "base") + part(2, "base")},
		"a base behind noughts":                {"journal0": noughts(5) + part(2, "base")},
		"a base behind a spoilt record":        {"journal0": spoilt + part(2, "base")},
		"a base in the second":                 {"journal0": spoilt, "journal1": part(2, "base")},
		"a base in the second, behind a base":  {"journal0": part(2, "base") + spoilt, "journal1": part(2, "base") + one},
		"a base that is too long":              {"journal0": part(2, strings.Repeat("m", api.MaxPlain+1))},
		"too many behind a whole one":          {"journal0": one, "journal1": one},
		"too many behind a base":               {"journal0": part(2, "base"), "journal1": one},
		"too many behind one of no bytes":      {"journal0": "", "journal1": one},
		"too many behind two":                  {"journal0": spoilt, "journal1": one, "journal2": one},
		"too many, a gap":                      {"journal0": spoilt, "journal2": one},
		"too many, and none at first":          {"journal1": one},
		"too many behind three":                {"journal0": spoilt, "journal1": noughts(4), "journal2": one, "journal3": spoilt},
	}
}

func TestFilesThatNoJournalLeaves(t *testing.T) {
	for what, files := range refused() {
		d := disked(t, 100000, files)
		before := picture(d)
		for range 2 {
			if j, e := journal.Open(d); j != nil || e != api.EFORM {
				t.Fatalf("P14.1: Open of files that no journal leaves, %s: %v, %d", what, j != nil, e)
			}
		}
		if picture(d) != before {
			t.Errorf("R3: Open of %s changed the files", what)
		}
	}
}

// What Open refuses it does not make safe, either.
func TestOpenThatIsRefusedMakesNothingSafe(t *testing.T) {
	d, j := made(t, 4096)
	add(t, j, "ann")
	ok(t, "P14.1: Sync", j.Sync())
	add(t, j, "bob")
	ok(t, "disk's Append", d.Append("other", []byte("x")))
	if _, e := journal.Open(d); e != api.EFORM {
		t.Fatalf("P14.1: Open: %d", e)
	}
	d.Crash(0, 0)
	d.On()
	holds(t, "R3: Open, refused, made something safe", opened(t, d), "", "ann")
}

// accepted are files that a journal leaves behind some crash, and the records that are in them.
func accepted() map[string]struct {
	files map[string]string
	base  string
	recs  []string
} {
	one := part(1, "ann")
	most := strings.Repeat("m", api.MaxRecord)
	type left = struct {
		files map[string]string
		base  string
		recs  []string
	}
	return map[string]left{
		"none":                         {map[string]string{}, "", nil},
		"one of no bytes":              {map[string]string{"journal0": ""}, "", nil},
		"records":                      {map[string]string{"journal0": one + part(1, "") + part(1, most)}, "", []string{"ann", "", most}},
		"a record cut off":             {map[string]string{"journal0": one + part(1, most)[:16387]}, "", []string{"ann"}},
		"its head alone":               {map[string]string{"journal0": one + one[:4]}, "", []string{"ann"}},
		"its head cut off":             {map[string]string{"journal0": one + "\x01\x00\x40"}, "", []string{"ann"}},
		"its mark alone":               {map[string]string{"journal0": "\x01"}, "", nil},
		"noughts":                      {map[string]string{"journal0": one + noughts(4)}, "", []string{"ann"}},
		"more noughts":                 {map[string]string{"journal0": noughts(50000) + one}, "", nil},
		"noughts here and there":       {map[string]string{"journal0": one + noughts(5) + one + noughts(4) + one[:2]}, "", []string{"ann"}},
		"a base":                       {map[string]string{"journal0": part(2, "base")}, "base", nil},
		"a base of no bytes":           {map[string]string{"journal0": part(2, "")}, "", nil},
		"a base, records, noughts":     {map[string]string{"journal0": part(2, "base") + one + one + noughts(4)}, "base", []string{"ann", "ann"}},
		"two":                          {map[string]string{"journal0": noughts(4) + one, "journal1": one}, "", []string{"ann"}},
		"two, the second of no bytes":  {map[string]string{"journal0": part(2, "base") + one + one[:6], "journal1": ""}, "base", []string{"ann"}},
		"three":                        {map[string]string{"journal0": part(2, "base") + noughts(9), "journal1": one[:1], "journal2": one + noughts(4)}, "base", []string{"ann"}},
		"a base that is like a record": {map[string]string{"journal0": part(2, one) + part(1, part(2, "x"))}, one, []string{part(2, "x")}},
	}
}

func TestFilesThatAJournalLeaves(t *testing.T) {
	for what, left := range accepted() {
		d := disked(t, 100000, left.files)
		j := opened(t, d)
		holds(t, "P14.2: "+what, j, left.base, left.recs...)
		add(t, j, "bob")
		recs := append(left.recs[:len(left.recs):len(left.recs)], "bob")
		holds(t, "P14.2: "+what+", opened", opened(t, d), left.base, recs...)
		holds(t, "P14.2: "+what+", behind a crash", fall(t, d, 0, 0), left.base, recs...)
	}
}

// leaf is what a journal could have left in a file, reckoned by trying all parts that could begin there.
type leaf struct {
	recs   []string
	spoilt bool
	ok     bool
}

// heads are all beginnings of a record's head.
func heads() map[string]bool {
	out := map[string]bool{}
	for n := range api.MaxRecord + 1 {
		head := string([]byte{1, 0, byte(n / 256), byte(n % 256)})
		for i := range 4 {
			out[head[:i+1]] = true
		}
	}
	return out
}

func reckon(heads map[string]bool, s string) leaf {
	if s == "" {
		return leaf{ok: true}
	}
	for n := 4; n <= len(s); n++ {
		rest := reckon(heads, s[n:])
		switch {
		case rest.ok && s[:n] == noughts(n):
			return leaf{spoilt: true, ok: true}
		case rest.ok && s[:4] == part(1, noughts(n-4))[:4]:
			rest.recs = append([]string{s[4:n]}, rest.recs...)
			return rest
		}
	}
	return leaf{spoilt: true, ok: heads[s[:min(4, len(s))]] && (len(s) < 4 || int(s[2])*256+int(s[3]) > len(s)-4)}
}

func held(t *testing.T, files map[string]string, base string, want leaf) {
	t.Helper()
	d := disked(t, 100, files)
	j, e := journal.Open(d)
	if want.ok != (e == api.OK) || !want.ok && e != api.EFORM {
		t.Fatalf("P14.1: Open of %q: %d, wanted is %v", files, e, want.ok)
	}
	if want.ok && !same(j, base, want.recs) {
		t.Fatalf("P14.1: Open of %q: %q, %q; wanted are %q", files, j.Base(), j.All(), want.recs)
	}
}

func TestAllShortFiles(t *testing.T) {
	heads := heads()
	for letters, most := range map[string]int{"\x00\x01": 11, "\x00\x01\x02\x40\x41": 5} {
		for n := range most + 1 {
			for _, s := range exactly(letters, n) {
				held(t, map[string]string{"journal0": part(2, "b") + s}, "b", reckon(heads, s))
				if !strings.HasPrefix(s, "\x02") {
					held(t, map[string]string{"journal0": s}, "", reckon(heads, s))
				}
			}
		}
	}
}

// exactly are all texts of so many letters.
func exactly(letters string, n int) []string {
	if n == 0 {
		return []string{""}
	}
	var out []string
	for _, s := range exactly(letters, n-1) {
		for i := range len(letters) {
			out = append(out, s+letters[i:i+1])
		}
	}
	return out
}

func TestAllShortPairsOfFiles(t *testing.T) {
	heads := heads()
	var some []string
	for n := range 6 {
		some = append(some, exactly("\x00\x01", n)...)
	}
	for _, a := range some {
		for _, b := range some {
			one, two := reckon(heads, a), reckon(heads, b)
			want := leaf{recs: append(one.recs, two.recs...), ok: one.ok && (b == "" || one.spoilt && two.ok)}
			held(t, map[string]string{"journal0": a, "journal1": b}, "", want)
		}
	}
}

// Whatever is on a disk, Open ends, and so does what goes on from it.
func TestAnyDisk(t *testing.T) {
	d, e := disk.New(1 << 20)
	ok(t, "disk.New", e)
	for n := range 30000 {
		ok(t, "disk's Append", d.Append(fmt.Sprint("journal", n), []byte(noughts(4))))
	}
	j := opened(t, d)
	add(t, j, "ann")
	holds(t, "P14.2: many spoilt files", fall(t, d, 1, 0), "", "ann")
	ok(t, "P14.1: Keep", opened(t, d).Keep([]byte("base")))
	if d.Size() != len(part(2, "base")) {
		t.Errorf("P14.1: behind Keep the disk has %d bytes", d.Size())
	}
	for n := range 3000 {
		ok(t, "disk's Append", d.Append(fmt.Sprint("journal", n), nil))
	}
	holds(t, "P14.1: many of no bytes", opened(t, d), "base")
}
