package wire_test

import (
	"bytes"
	"math"
	"slices"
	"strconv"
	"testing"

	"bandbox/api"
	"bandbox/wire"
)

// spare is what lies behind that which is read: noughts, as good asks.
const spare = 3

// reader reads b, with spare bytes behind it.
func reader(b []byte) *wire.Reader {
	return wire.Read(slices.Concat(b, make([]byte, spare)))
}

func TestANumAtMost(t *testing.T) {
	for _, v := range edges() {
		for _, most := range []int64{math.MinInt64, -1, 0, 1, v - 1, v, v + 1, math.MaxInt64 - 1, math.MaxInt64} {
			what := "Num(" + strconv.FormatInt(most, 10) + ") of " + strconv.FormatInt(v, 10)
			r := reader(told(v))
			got := r.Num(most)
			if v > max(most, 0) {
				if got != 0 {
					t.Errorf("P11.1: %s = %d", what, got)
				}
				bad(t, what, r)
				continue
			}
			if got != v {
				t.Errorf("P11.1: %s = %d", what, got)
			}
			good(t, what, r, spare)
		}
	}
}

func TestNumsThatAreNone(t *testing.T) {
	for _, s := range []string{
		// not there, or broken off
		"", "80", "81", "ff", "8080", "ff80", "80808080808080", "ffffffffffffffff",
		// one byte less would do
		"8000", "8100", "ff00", "808000", "ff8000", "818000", "ffff00", "8080808080808000", "808080808080808000", "ffffffffffffffff00",
		// the ninth byte has the bit 128
		"808080808080808080", "ffffffffffffffffff", "808080808080808081",
		// ten bytes and more
		"80808080808080808000", "80808080808080808001", "ffffffffffffffffff00", "ffffffffffffffffff01", "ffffffffffffffffff7f", "8080808080808080808001", "ffffffffffffffffffffffffffffffffffffff01",
	} {
		for _, most := range []int64{math.MinInt64, 0, 127, 128, math.MaxInt64} {
			r := wire.Read(bytesOf(s))
			if v := r.Num(most); v != 0 {
				t.Errorf("P11.1: Num(%d) of %s = %d", most, s, v)
			}
			bad(t, "Num of "+s, r)
		}
		// Such a length is none, either.
		for _, call := range []func(r *wire.Reader){func(r *wire.Reader) { r.Bytes(math.MaxInt) }, func(r *wire.Reader) { r.Text(math.MaxInt) }, func(r *wire.Reader) { r.Bytes(0) }, func(r *wire.Reader) { r.Text(0) }} {
			bad(t, "a length of "+s, asks(wire.Read(bytesOf(s)), call))
		}
	}
}

// Where more stands behind it, a number that is not as told is none all the same.
func TestNumsThatAreNoneAheadOfOthers(t *testing.T) {
	for _, s := range []string{"8000", "ff00", "808000", "808080808080808000", "808080808080808080", "ffffffffffffffffff", "80808080808080808001"} {
		b := append(bytesOf(s), mixed(200)...)
		bad(t, "Num of "+s, asks(wire.Read(b), func(r *wire.Reader) { r.Num(math.MaxInt64) }))
		b = append(bytesOf(s), make([]byte, 200)...)
		bad(t, "Num of "+s, asks(wire.Read(b), func(r *wire.Reader) { r.Num(math.MaxInt64) }))
	}
}

// read holds one Num of b against another reckoning.
func read(t *testing.T, b []byte) {
	t.Helper()
	want, size, ok := reckoned(b)
	r := wire.Read(b)
	if v := r.Num(math.MaxInt64); v != want || r.Bad() == ok || r.End() != (ok && size == len(b)) {
		t.Errorf("P11.1: Num of %x = %d, Bad is %v, End is %v", b, v, r.Bad(), r.End())
	}
}

func TestNumOfAnyBytes(t *testing.T) {
	for i := range 1 << 16 {
		read(t, []byte{byte(i >> 8)})
		read(t, []byte{byte(i >> 8), byte(i)})
	}
	some := []byte{0, 1, 2, 64, 126, 127, 128, 129, 192, 254, 255}
	for n := range 12 {
		for _, most := range some {
			for _, high := range some {
				for _, last := range some {
					b := bytes.Repeat([]byte{most}, n)
					read(t, append(b, high, last))
					read(t, append(b, high, last, 0))
				}
			}
		}
	}
}

func TestBytesAndTextAtMost(t *testing.T) {
	for _, n := range lengths() {
		x := mixed(n)
		b := wire.Bytes(nil, x)
		for _, most := range []int{math.MinInt, -1, 0, n - 1, n, n + 1, math.MaxInt} {
			what := "of most " + strconv.Itoa(most) + ": " + strconv.Itoa(n)
			r, q := reader(b), reader(b)
			got, text := r.Bytes(most), q.Text(most)
			if n > max(most, 0) {
				if len(got) != 0 || text != "" {
					t.Errorf("P11.1: Bytes %s: %d bytes, Text: %d", what, len(got), len(text))
				}
				bad(t, "Bytes "+what, r)
				bad(t, "Text "+what, q)
				continue
			}
			if !bytes.Equal(got, x) || text != string(x) {
				t.Errorf("P11.1: Bytes %s: %d bytes, Text: %d", what, len(got), len(text))
			}
			good(t, "Bytes "+what, r, spare)
			good(t, "Text "+what, q, spare)
		}
	}
}

func TestBytesAndTextThatAreNotThere(t *testing.T) {
	for _, v := range []int64{1, 2, 127, 128, 129, 16384, 1 << 31, 1 << 40, 1 << 62, math.MaxInt64 - 1, math.MaxInt64} {
		for _, left := range []int64{0, 1, 100, v - 1} {
			if left >= v || left > 1<<20 {
				continue
			}
			for _, x := range [][]byte{make([]byte, left), mixed(int(left))} {
				what := strconv.FormatInt(v, 10) + " bytes of " + strconv.FormatInt(left, 10)
				r, q := wire.Read(append(told(v), x...)), wire.Read(append(told(v), x...))
				if got, text := r.Bytes(math.MaxInt), q.Text(math.MaxInt); len(got) != 0 || text != "" {
					t.Errorf("P11.1: %s: Bytes %x, Text %q", what, got, text)
				}
				bad(t, "Bytes, "+what, r)
				bad(t, "Text, "+what, q)
			}
		}
	}
}

func TestWordAndSigThatAreNotThere(t *testing.T) {
	for n := range 100 {
		b := make([]byte, n)
		copy(b, mixed(min(n, 32)))
		r, q := wire.Read(b), wire.Read(append(mixed(min(n, 64)), make([]byte, max(n-64, 0))...))
		w, s := r.Word(), q.Sig()
		if n < 32 {
			if w != (api.Word{}) {
				t.Errorf("P11.1: Word of %d bytes: %x", n, w)
			}
			bad(t, "Word of "+strconv.Itoa(n)+" bytes", r)
		} else {
			if w != api.Word(mixed(32)) {
				t.Errorf("P11.1: Word of %d bytes: %x", n, w)
			}
			good(t, "Word of "+strconv.Itoa(n)+" bytes", r, n-32)
		}
		if n < 64 {
			if s != (api.Sig{}) {
				t.Errorf("P11.1: Sig of %d bytes: %x", n, s)
			}
			bad(t, "Sig of "+strconv.Itoa(n)+" bytes", q)
		} else {
			if s != api.Sig(mixed(64)) {
				t.Errorf("P11.1: Sig of %d bytes: %x", n, s)
			}
			good(t, "Sig of "+strconv.Itoa(n)+" bytes", q, n-64)
		}
	}
}

// spoils are ways to make a reader bad: what it reads, and what it is asked for.
func spoils() map[string]struct {
	b    []byte
	call func(r *wire.Reader)
} {
	type spoil = struct {
		b    []byte
		call func(r *wire.Reader)
	}
	// All that is asked for afterwards is there in these, at each place where a reader could go on.
	ones := bytes.Repeat([]byte{1}, 200)
	behind := func(s string) []byte { return slices.Concat(bytesOf(s), ones) }
	return map[string]spoil{
		"a number above most":              {ones, func(r *wire.Reader) { r.Num(0) }},
		"a number above a most below 0":    {ones, func(r *wire.Reader) { r.Num(-1) }},
		"a number of two bytes above most": {behind("8001"), func(r *wire.Reader) { r.Num(127) }},
		"a number with a byte too many":    {behind("8000"), func(r *wire.Reader) { r.Num(9) }},
		"a number of ten bytes":            {behind("ffffffffffffffffff"), func(r *wire.Reader) { r.Num(9) }},
		"more bytes than most":             {behind("02"), func(r *wire.Reader) { r.Bytes(1) }},
		"more of a text than most":         {behind("02"), func(r *wire.Reader) { r.Text(1) }},
		"bytes of a most below 0":          {ones, func(r *wire.Reader) { r.Bytes(-1) }},
		"bytes that are not there":         {behind("c901"), func(r *wire.Reader) { r.Bytes(1000) }},
		"a text that is not there":         {behind("c901"), func(r *wire.Reader) { r.Text(1000) }},
		"a length that is none":            {behind("8000"), func(r *wire.Reader) { r.Bytes(9) }},
		"a Word that is not there":         {ones[:31], func(r *wire.Reader) { r.Word() }},
		"a Sig that is not there":          {ones[:63], func(r *wire.Reader) { r.Sig() }},
		"no number":                        {nil, func(r *wire.Reader) { r.Num(9) }},
		"none, behind another one":         {ones[:1], func(r *wire.Reader) { r.Num(9); r.Num(9) }},
		"none, behind bytes":               {[]byte{1, 7}, func(r *wire.Reader) { r.Bytes(9); r.Text(9) }},
	}
}

func TestOnceBadForEver(t *testing.T) {
	for name, s := range spoils() {
		bad(t, name, asks(wire.Read(s.b), s.call))
		for _, a := range asked() {
			for _, then := range asked() {
				r := asks(wire.Read(s.b), s.call)
				if !a.zero(r) || !then.zero(r) {
					t.Errorf("P11.1: %s, then %s and %s: told something", name, a.name, then.name)
				}
				if !r.Bad() || r.End() {
					t.Errorf("P11.1: %s, then %s and %s: Bad is %v, End is %v", name, a.name, then.name, r.Bad(), r.End())
				}
			}
		}
	}
}

// A reader that was asked for nothing is not bad, whatever there is to read.
func TestBeforeAnythingIsRead(t *testing.T) {
	good(t, "nil", wire.Read(nil), 0)
	good(t, "no bytes", wire.Read([]byte{}), 0)
	for n := range 70 {
		good(t, strconv.Itoa(n)+" noughts", wire.Read(make([]byte, n)), n)
	}
	for _, s := range []string{"80", "8000", "ff", "ffffffffffffffffffff", "05"} {
		if r := wire.Read(bytesOf(s)); r.Bad() || r.End() {
			t.Errorf("P11.1: ahead of %s: Bad is %v, End is %v", s, r.Bad(), r.End())
		}
	}
}

func TestOfNoBytes(t *testing.T) {
	for _, a := range asked() {
		for _, b := range [][]byte{nil, {}} {
			r := wire.Read(b)
			if !a.zero(r) {
				t.Errorf("P11.1: %s of no bytes tells something", a.name)
			}
			bad(t, a.name+" of no bytes", r)
		}
	}
}

// R1: whatever it reads, and whatever it is asked for, in any order.
func TestReadersOfAnyBytes(t *testing.T) {
	mosts := []int64{math.MinInt64, -1, 0, 1, 31, 127, 128, 1 << 40, math.MaxInt64}
	state := uint64(1)
	next := func(n int) int {
		state = state*6364136223846793005 + 1442695040888963407
		return int(state>>33) % n
	}
	for range 20000 {
		b := make([]byte, next(150))
		for i := range b {
			b[i] = byte(next(256) >> next(9))
		}
		r, was := wire.Read(b), false
		for range 12 {
			most := mosts[next(len(mosts))]
			zero := true
			switch next(5) {
			case 0:
				v := r.Num(most)
				zero = v == 0
				if v < 0 || v > max(most, 0) {
					t.Errorf("P11.1: Num(%d) of %x = %d", most, b, v)
				}
			case 1:
				zero = len(r.Bytes(int(most))) == 0
			case 2:
				zero = r.Text(int(most)) == ""
			case 3:
				zero = r.Word() == api.Word{}
			case 4:
				zero = r.Sig() == api.Sig{}
			}
			if r.Bad() && (!zero || r.End()) || was && !r.Bad() {
				t.Fatalf("P11.1: a reader of %x: Bad is %v, End is %v, and it told something: %v", b, r.Bad(), r.End(), !zero)
			}
			was = r.Bad()
		}
	}
}
