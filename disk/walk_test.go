package disk_test

import (
	"bytes"
	"math"
	"math/rand"
	"strings"
	"testing"

	"bandbox/api"
)

// calls are a disk's, as the disk and the paper both have them.
type calls interface {
	Append(name string, b []byte) api.Errno
	Sync(name string) api.Errno
	Read(name string) ([]byte, api.Errno)
	Rename(old, name string) api.Errno
	Drop(name string) api.Errno
	Size() int
	Crash(keep uint64, torn int)
	On()
	Power() bool
	Lives() int
}

// walkNames are names for walks, some of which are none.
func walkNames() []string {
	return []string{"a", "b", "c", "d", "a", "b", "a", strings.Repeat("x", 20), strings.Repeat("x", 21), "", "a b"}
}

// step does something, told by numbers alone, to one of them.
func step(r *rand.Rand) func(c calls) api.Errno {
	name, other := walkNames()[r.Intn(11)], walkNames()[r.Intn(11)]
	b := make([]byte, max(0, r.Intn(8)-2))
	for i := range b {
		b[i] = byte('a' + r.Intn(26))
	}
	keep := r.Uint64()
	if r.Intn(4) == 0 {
		keep = 1<<63 | uint64(r.Intn(3))
	}
	torn := []int{0, 1, 2, 3, 5, 100, -1, math.MaxInt, math.MinInt}[r.Intn(9)]
	switch n := r.Intn(100); {
	case n < 3:
		return func(c calls) api.Errno { c.Crash(keep, torn); return 0 }
	case n < 7:
		return func(c calls) api.Errno { c.On(); return 0 }
	case n < 10:
		return func(c calls) api.Errno { return c.Sync(name) }
	case n < 16:
		return func(c calls) api.Errno { return c.Rename(name, other) }
	case n < 18:
		return func(c calls) api.Errno { return c.Drop(name) }
	}
	return func(c calls) api.Errno { return c.Append(name, b) }
}

func TestWalks(t *testing.T) {
	for seed := range int64(200) {
		r := rand.New(rand.NewSource(seed))
		room := []int{64, 100, 1000}[seed%3]
		d, p := made(t, room), newPaper(room)
		for n := range 400 {
			do := step(r)
			got, want := do(d), do(p)
			if got != want || d.Size() != p.Size() || d.Power() != p.Power() || d.Lives() != p.Lives() {
				t.Fatalf("walk %d, step %d: %d, wanted is %d; Size %d, %d; Lives %d, %d", seed, n, got, want, d.Size(), p.Size(), d.Lives(), p.Lives())
			}
			for _, name := range walkNames() {
				b, e := d.Read(name)
				if x, f := p.Read(name); e != f || !bytes.Equal(b, x) {
					t.Fatalf("walk %d, step %d: Read of %q: %q, %d; wanted are %q, %d", seed, n, name, b, e, x, f)
				}
			}
		}
	}
}
