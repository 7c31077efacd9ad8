package op_test

import (
	"bytes"
	"encoding/binary"
	"math"
	"slices"
	"strings"
	"testing"

	"bandbox/api"
	"bandbox/op"
	"bandbox/vec"
)

// put fails where Put writes something else, or Get does not tell the edit of that.
func put(t *testing.T, e op.Edit, want string) {
	t.Helper()
	if b := op.Put(e); string(b) != want {
		t.Errorf("P16.1: Put of %+v: %q, not %q", e, b, want)
	}
	got(t, "what Put writes", []byte(want), e)
}

// got fails where Get does not tell e.
func got(t *testing.T, what string, b []byte, e op.Edit) {
	t.Helper()
	if x, err := op.Get(b); x != e || err != api.OK {
		t.Errorf("P16.1: Get of %s, %q: %+v, %d", what, b, x, err)
	}
}

// refused fails where Get takes b, or tells something beside the error.
func refused(t *testing.T, what string, b []byte) {
	t.Helper()
	x, err := op.Get(b)
	if err != api.EFORM {
		t.Errorf("P16.1: Get of %s, %q: %d", what, b, err)
	}
	if x != (op.Edit{}) {
		t.Errorf("R2: Get of %s, %q: %d, and %+v", what, b, err, x)
	}
}

func TestPutByteByByte(t *testing.T) {
	put(t, first(), "\x02\x04\x01\x00\x03\x00\x00\x00\x00\x00\x01\xac\x02\x03ann\x03tel\x015")
	put(t, gone(), "\x00\x01\x00\x07\x00\x00\x00\x00\x00\x00\x02\x09\x03bob\x00\x00")
	put(t, with(first(), func(e *op.Edit) { e.Contact, e.Field, e.Value, e.Time = "!", "~", "", 0 }), "\x02\x04\x01\x00\x03\x00\x00\x00\x00\x00\x01\x00\x01!\x01~\x00")
	high := op.Edit{Dot: api.Dot{Dev: 7, N: most}, Seen: vec.Vec{1, 2, 3, 4, 5, 6, 128, most - 1}, Kind: 1, Contact: "a", Field: "b", Value: "\x00\xff", Time: most}
	put(t, high, "\x07\x80\x80\x80\x80\x80\x20\x01\x02\x03\x04\x05\x06\x80\x01\xff\xff\xff\xff\xff\x1f\x01\x80\x80\x80\x80\x80\x20\x01a\x01b\x02\x00\xff")
	long := strings.Repeat("n", 40)
	value := strings.Repeat("v", 200)
	put(t, with(first(), func(e *op.Edit) { e.Contact, e.Field, e.Value = long, long, value }), "\x02\x04\x01\x00\x03\x00\x00\x00\x00\x00\x01\xac\x02\x28"+long+"\x28"+long+"\xc8\x01"+value)
	for _, e := range some() {
		put(t, e, string(told(e)))
	}
}

func TestPutOfOneThatMayNotBe(t *testing.T) {
	for _, e := range none() {
		if b := op.Put(e); len(b) != 0 {
			t.Errorf("P16.1: Put of %+v: %q", e, b)
		}
	}
}

// What reads as an edit that may not be is not what Put writes of any.
func TestGetOfOneThatMayNotBe(t *testing.T) {
	for _, e := range none() {
		refused(t, "an edit that may not be", told(e))
	}
}

func TestGetOfTooFewBytesAndOfTooMany(t *testing.T) {
	refused(t, "nil", nil)
	refused(t, "an empty list", []byte{})
	for _, e := range some() {
		b := told(e)
		for n := range b {
			refused(t, "a beginning", b[:n])
			refused(t, "an end", b[len(b)-n:])
		}
		for c := range 256 {
			refused(t, "one with a byte more", append(bytes.Clone(b), byte(c)))
		}
		refused(t, "two", slices.Concat(b, b))
		refused(t, "one with a byte ahead", slices.Concat([]byte{0}, b))
	}
}

// pieces are the bytes of each thing that tells an edit: ten numbers, Kind, Time, and of each text its length and itself.
func pieces(e op.Edit) [][]byte {
	var out [][]byte
	for _, v := range append(append([]int64{int64(e.Dot.Dev), e.Dot.N}, e.Seen[:]...), int64(e.Kind), e.Time) {
		out = append(out, binary.AppendUvarint(nil, uint64(v)))
	}
	for _, s := range []string{e.Contact, e.Field, e.Value} {
		out = append(out, binary.AppendUvarint(nil, uint64(len(s))), []byte(s))
	}
	return out
}

// instead is an edit's bytes with others in place of one piece.
func instead(e op.Edit, piece int, b []byte) []byte {
	all := pieces(e)
	all[piece] = b
	return slices.Concat(all...)
}

// numbers are the pieces that are numbers, lengths too.
func numbers() []int {
	return []int{0, 1, 2, 3, 4, 5, 6, 7, 8, 9, 10, 11, 12, 14, 16}
}

func TestGetOfNumbersThatAreNotWrittenSo(t *testing.T) {
	for _, e := range some() {
		for _, i := range numbers() {
			right := pieces(e)[i]
			got(t, "it as it is", instead(e, i, right), e)
			for _, noughts := range []string{"\x00", "\x80\x00", "\x80\x80\x80\x80\x80\x80\x80\x00", "\x80\x80\x80\x80\x80\x80\x80\x80\x80\x00"} {
				long := bytes.Clone(right)
				long[len(long)-1] |= 0x80
				refused(t, "a number with noughts behind it", instead(e, i, append(long, noughts...)))
			}
			refused(t, "one without a number", instead(e, i, nil))
		}
	}
}

func TestGetOfNumbersPastWhatMayBe(t *testing.T) {
	for _, e := range some() {
		for _, i := range numbers() {
			for _, v := range []uint64{uint64(most) + 1, 1 << 41, 1 << 62, math.MaxInt64, 1<<32 + 1, 1<<32 + 2, 256 + 1, 1<<40 + 3} {
				b := binary.AppendUvarint(nil, v)
				if x, ok := parsed(instead(e, i, b)); ok {
					got(t, "another number", instead(e, i, b), x)
				} else {
					refused(t, "a number past what may be", instead(e, i, b))
				}
			}
			refused(t, "a number past all numbers", instead(e, i, []byte("\xff\xff\xff\xff\xff\xff\xff\xff\xff\x01")))
			refused(t, "a number of eleven bytes", instead(e, i, []byte("\x81\x80\x80\x80\x80\x80\x80\x80\x80\x80\x01")))
		}
	}
	for _, dev := range []uint64{8, 9, 128, 1 << 32, 1 << 40} {
		refused(t, "a device past the last one", instead(gone(), 0, binary.AppendUvarint(nil, dev)))
	}
	for _, kind := range []uint64{0, 3, 4, 127, 128, 257, 258, 1<<32 + 1, 1<<32 + 2} {
		refused(t, "a kind that is none", instead(first(), 10, binary.AppendUvarint(nil, kind)))
		refused(t, "a kind that is none", instead(gone(), 10, binary.AppendUvarint(nil, kind)))
	}
}

func TestGetOfTextsPastTheirLimits(t *testing.T) {
	for _, n := range []int{41, 42, 128, 200, 201, 300, 70000} {
		long := []byte(strings.Repeat("n", n))
		count := binary.AppendUvarint(nil, uint64(n))
		for _, e := range []op.Edit{first(), gone()} {
			for _, i := range []int{12, 14, 16} {
				all := pieces(e)
				all[i], all[i+1] = count, long
				b := slices.Concat(all...)
				if i == 16 && e.Kind == 1 && n <= 200 {
					got(t, "a Value within its limit", b, with(e, func(e *op.Edit) { e.Value = string(long) }))
				} else {
					refused(t, "a text past its limit", b)
				}
			}
		}
	}
}

// A text that is longer, or shorter, than told: the rest is read as something else.
func TestGetOfTextsThatAreNotAsLongAsTold(t *testing.T) {
	for _, e := range some() {
		for _, i := range []int{12, 14, 16} {
			for n := range 205 {
				b := instead(e, i, binary.AppendUvarint(nil, uint64(n)))
				if x, ok := parsed(b); ok {
					got(t, "a text that is as long as told", b, x)
				} else {
					refused(t, "a text that is not as long as told", b)
				}
			}
		}
	}
}

// same fails where Get does not tell just what the bytes tell, reckoned in another way; it answers whether they tell one.
func same(t *testing.T, b []byte) bool {
	t.Helper()
	x, ok := parsed(b)
	if !ok {
		refused(t, "bytes that tell no edit", b)
		return false
	}
	got(t, "bytes that tell an edit", b, x)
	if !bytes.Equal(op.Put(x), b) {
		t.Errorf("P16.1: Put of %+v: %q, not %q", x, op.Put(x), b)
	}
	return true
}

func TestGetWithEachByteAnotherOne(t *testing.T) {
	takes, refuses := 0, 0
	for _, e := range []op.Edit{first(), gone(), at(first(), 7, most), with(first(), func(e *op.Edit) { e.Value = "" }), with(gone(), func(e *op.Edit) { e.Contact, e.Time = strings.Repeat("~", 40), most })} {
		b := told(e)
		for i := range b {
			for c := range 256 {
				x := bytes.Clone(b)
				x[i] = byte(c)
				if same(t, x) {
					takes++
				} else {
					refuses++
				}
			}
		}
	}
	if takes < 1000 || refuses < 1000 {
		t.Errorf("the test is no test: %d are taken, %d are refused", takes, refuses)
	}
}

func TestGetWithABitTakenOrPutIn(t *testing.T) {
	for _, e := range some() {
		b := told(e)
		for i := range b {
			same(t, slices.Delete(bytes.Clone(b), i, i+1))
			same(t, slices.Insert(bytes.Clone(b), i, b[i]))
			same(t, slices.Insert(bytes.Clone(b), i, 0))
			same(t, slices.Insert(bytes.Clone(b), i, 0x80))
		}
	}
}

func TestGetOfAnyBytes(t *testing.T) {
	seed := uint64(16)
	next := func(n int) int {
		seed = seed*6364136223846793005 + 1442695040888963407
		return int(seed >> 33 % uint64(n))
	}
	for range 20000 {
		b := make([]byte, next(60))
		for i := range b {
			b[i] = byte(next(256))
			if next(4) > 0 {
				b[i] %= 4
			}
		}
		same(t, b)
	}
	// Numbers that are small, and names that are short: some of these tell an edit.
	takes := 0
	for range 20000 {
		dev, n := next(9), next(3)
		e := at(op.Edit{Kind: next(3), Contact: "abc"[:next(4)], Field: "d "[:next(3)], Value: "e"[:next(2)], Time: int64(next(3))}, dev, int64(n))
		e.Seen[next(8)] = int64(next(2))
		if same(t, told(e)) {
			takes++
		}
	}
	if takes < 100 {
		t.Errorf("the test is no test: %d are taken", takes)
	}
}

func TestGetOfManyBytes(t *testing.T) {
	refused(t, "many bytes", slices.Concat(told(first()), make([]byte, 1<<20)))
	refused(t, "many noughts", make([]byte, 1<<20))
	refused(t, "many high bytes", bytes.Repeat([]byte{0xff}, 1<<20))
}
