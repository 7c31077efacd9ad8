package vec_test

import (
	"bytes"
	"math"
	"slices"
	"strconv"
	"testing"

	"bandbox/vec"
	"bandbox/wire"
)

// put fails where Put does not write just that behind what is there already.
func put(t *testing.T, v vec.Vec, want []byte) {
	t.Helper()
	for _, b := range [][]byte{nil, {}, {0}, {0x80}, []byte("ahead"), bytes.Repeat([]byte{0xff}, 300)} {
		if got := vec.Put(b, v); !bytes.Equal(got, slices.Concat(b, want)) {
			t.Errorf("P15.1: Put(%d bytes, %v) = %x", len(b), v, got)
		}
	}
}

func TestPut(t *testing.T) {
	put(t, vec.Vec{}, make([]byte, 8))
	put(t, vec.Vec{1, 2, 3, 4, 5, 6, 7, 8}, []byte{1, 2, 3, 4, 5, 6, 7, 8})
	put(t, vec.Vec{0, 1, 300, most, 0, 2, 0, 9}, []byte("\x00\x01\xac\x02\x80\x80\x80\x80\x80\x20\x00\x02\x00\x09"))
	put(t, filled(most), bytes.Repeat([]byte("\x80\x80\x80\x80\x80\x20"), 8))
	for _, v := range some() {
		put(t, v, told(v))
	}
}

func TestPutOfVectorsThatAreNotGood(t *testing.T) {
	put(t, filled(-1), make([]byte, 8))
	put(t, filled(math.MinInt64), make([]byte, 8))
	put(t, vec.Vec{1, -1, 2, -300}, []byte{1, 0, 2, 0, 0, 0, 0, 0})
	put(t, vec.Vec{most + 1}, []byte("\x81\x80\x80\x80\x80\x20\x00\x00\x00\x00\x00\x00\x00"))
	put(t, filled(math.MaxInt64), bytes.Repeat([]byte("\xff\xff\xff\xff\xff\xff\xff\xff\x7f"), 8))
	for place := range devs {
		for _, n := range edges() {
			v := alone(place, n, 2)
			put(t, v, told(v))
		}
	}
}

// got fails where Get does not tell v of the reader, or leaves it bad.
func got(t *testing.T, what string, r *wire.Reader, v vec.Vec) {
	t.Helper()
	if x := vec.Get(r); x != v || r.Bad() {
		t.Errorf("P15.1: Get of %s: %v, not %v; Bad is %v", what, x, v, r.Bad())
	}
}

// refused fails where Get tells something of the reader, or does not leave it bad; again and again.
func refused(t *testing.T, what string, r *wire.Reader) {
	t.Helper()
	for range 3 {
		if x := vec.Get(r); x != (vec.Vec{}) || !r.Bad() || r.End() {
			t.Errorf("P15.1: Get of %s: %v, Bad is %v, End is %v", what, x, r.Bad(), r.End())
		}
	}
}

func TestGetOfWhatPutWrote(t *testing.T) {
	for _, v := range some() {
		b := vec.Put(nil, v)
		if !vec.Good(v) {
			continue
		}
		r := wire.Read(b)
		got(t, "what Put wrote", r, v)
		if !r.End() {
			t.Errorf("P15.1: Get leaves something of %x", b)
		}
	}
}

// Numbers below 0 are written as noughts: Get tells these.
func TestGetOfWhatPutWroteOfNumbersBelowNought(t *testing.T) {
	got(t, "numbers below 0", wire.Read(vec.Put(nil, vec.Vec{-1, 5, math.MinInt64, most, -most})), vec.Vec{0, 5, 0, most})
}

func TestTheReaderReadsOnBehindIt(t *testing.T) {
	a, b := vec.Vec{1, 300, most}, vec.Vec{7: 2, 3: 128}
	r := wire.Read(wire.Text(vec.Put(vec.Put(wire.Num(nil, 77), a), b), "ann"))
	if n := r.Num(77); n != 77 {
		t.Errorf("P15.1: ahead of Get: %d", n)
	}
	got(t, "the first one", r, a)
	got(t, "the second one", r, b)
	if s := r.Text(3); s != "ann" || !r.End() {
		t.Errorf("P15.1: behind Get: %q, End is %v", s, r.End())
	}
	refused(t, "nothing that is left", r)
}

// An eighth number is the last one: a ninth one is left, even one that Get would not take.
func TestGetTakesEightNumbers(t *testing.T) {
	v := filled(1)
	for _, n := range []int64{0, 5, most, most + 1, math.MaxInt64} {
		r := wire.Read(wire.Num(vec.Put(nil, v), n))
		got(t, "eight of nine numbers", r, v)
		if r.End() || r.Num(math.MaxInt64) != n || !r.End() {
			t.Errorf("P15.1: a ninth number, %d, is not left", n)
		}
	}
	r := wire.Read(append(vec.Put(nil, v), 0x80, 0x00))
	got(t, "one with bytes behind it that are no number", r, v)
	if r.Num(math.MaxInt64) != 0 || !r.Bad() {
		t.Error("P15.1: what is behind it is not left")
	}
}

func TestGetOfTooFewBytes(t *testing.T) {
	for _, v := range []vec.Vec{{}, {1, 2, 3, 4, 5, 6, 7, 8}, filled(300), filled(most), {7: most}, {most}} {
		b := vec.Put(nil, v)
		for n := range b {
			refused(t, strconv.Itoa(n)+" bytes of one", wire.Read(b[:n]))
		}
	}
	refused(t, "nil", wire.Read(nil))
	refused(t, "an empty list", wire.Read([]byte{}))
}

func TestGetOfANumberThatIsTooGreat(t *testing.T) {
	for place := range devs {
		for _, others := range []int64{0, 1, 300, most} {
			for _, n := range edges() {
				v := alone(place, n, others)
				r := wire.Read(vec.Put(nil, v))
				if n > most {
					refused(t, "a number above 2^40", r)
				} else {
					got(t, "a number that may be", r, alone(place, max(n, 0), others))
				}
			}
			refused(t, "a number of ten bytes", wire.Read(spoilt(place, others, "\x80\x80\x80\x80\x80\x80\x80\x80\x80\x01")))
		}
	}
}

// spoilt is a vector's bytes, with others in one place.
func spoilt(place int, others int64, text string) []byte {
	var b []byte
	for i := range devs {
		if i == place {
			b = append(b, text...)
		} else {
			b = wire.Num(b, others)
		}
	}
	return b
}

func TestGetOfANumberThatIsNotWrittenSo(t *testing.T) {
	for place := range devs {
		for _, x := range []string{"\x80\x00", "\x81\x00", "\xac\x82\x00", "\xff\x00", "\x80\x80\x80\x80\x80\xa0\x00", "\xff\xff\xff\xff\xff\xff\xff\xff\xff\xff\xff"} {
			refused(t, "a number that wire would not write so", wire.Read(spoilt(place, 5, x)))
		}
		got(t, "a number that wire would write so", wire.Read(spoilt(place, 5, "\xac\x02")), alone(place, 300, 5))
	}
}

func TestGetOfAReaderThatWasBad(t *testing.T) {
	b := vec.Put(nil, filled(1))
	for name, spoil := range map[string]func(r *wire.Reader){
		"Num":   func(r *wire.Reader) { r.Num(0) },
		"Bytes": func(r *wire.Reader) { r.Bytes(0) },
		"Text":  func(r *wire.Reader) { r.Text(0) },
		"Word":  func(r *wire.Reader) { r.Word() },
		"Sig":   func(r *wire.Reader) { r.Sig() },
		"Get":   func(r *wire.Reader) { r.Num(1); vec.Get(r) },
	} {
		r := wire.Read(b)
		spoil(r)
		if !r.Bad() {
			t.Fatalf("%s does not make the reader bad", name)
		}
		refused(t, "a reader that was bad behind "+name, r)
	}
}

// Any bytes: what Get tells is what they are the beginning of, as Put writes it.
func TestGetOfAnyBytes(t *testing.T) {
	seed := uint64(7)
	for range 20000 {
		b := make([]byte, 0, 20)
		for range 7 + seed>>60 {
			seed = seed*6364136223846793005 + 1442695040888963407
			c := byte(seed >> 56)
			if seed>>40&7 != 0 {
				c &= 0x7f
			}
			b = append(b, c)
		}
		r := wire.Read(b)
		v := vec.Get(r)
		if r.Bad() {
			if v != (vec.Vec{}) || beginsWithOne(b) {
				t.Errorf("P15.1: Get of %x: %v, and bad", b, v)
			}
		} else if !vec.Good(v) || !bytes.HasPrefix(b, told(v)) {
			t.Errorf("P15.1: Get of %x: %v", b, v)
		}
	}
}

// beginsWithOne tells in another way whether a good vector's bytes stand at the front.
func beginsWithOne(b []byte) bool {
	for range devs {
		end := slices.IndexFunc(b, func(c byte) bool { return c < 0x80 })
		if end < 0 || end > 5 || end > 0 && b[end] == 0 {
			return false
		}
		if end == 5 && (b[5] > 0x20 || b[5] == 0x20 && !bytes.Equal(b[:5], []byte("\x80\x80\x80\x80\x80"))) {
			return false
		}
		b = b[end+1:]
	}
	return true
}
