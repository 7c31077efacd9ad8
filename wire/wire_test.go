package wire_test

import (
	"bytes"
	"math"
	"slices"
	"strings"
	"testing"

	"bandbox/api"
	"bandbox/wire"
)

func TestTheChaptersExample(t *testing.T) {
	if got := wire.Num(nil, 300); !slices.Equal(got, []byte{172, 2}) {
		t.Errorf("P11.1: Num(nil, 300) = %v", got)
	}
	r := wire.Read([]byte{172, 2})
	if v := r.Num(300); v != 300 {
		t.Errorf("P11.1: Num of 172 2: %d", v)
	}
	good(t, "172 2", r, 0)
}

// aheads are bytes that are there already.
func aheads() [][]byte {
	return [][]byte{nil, {}, {0}, {0x80}, []byte("ahead"), mixed(200)}
}

// written fails where a call does not put just what is wanted behind what is there already.
func written(t *testing.T, what string, call func(b []byte) []byte, want []byte) {
	t.Helper()
	for _, b := range aheads() {
		if got := call(b); !bytes.Equal(got, slices.Concat(b, want)) {
			t.Errorf("P11.1: %s behind %d bytes: %d bytes, %x ..", what, len(b), len(got), got[:min(len(got), 40)])
		}
	}
}

func writtenNum(t *testing.T, v int64, want []byte) {
	t.Helper()
	written(t, "Num", func(b []byte) []byte { return wire.Num(b, v) }, want)
}

func TestNumAtEachGroup(t *testing.T) {
	cases := []struct {
		v    int64
		want string
	}{
		{0, "00"},
		{1, "01"},
		{127, "7f"},
		{128, "80 01"},
		{129, "81 01"},
		{255, "ff 01"},
		{256, "80 02"},
		{16383, "ff 7f"},
		{16384, "80 80 01"},
		{1<<21 - 1, "ff ff 7f"},
		{1 << 21, "80 80 80 01"},
		{1<<28 - 1, "ff ff ff 7f"},
		{1 << 28, "80 80 80 80 01"},
		{1<<35 - 1, "ff ff ff ff 7f"},
		{1 << 35, "80 80 80 80 80 01"},
		{1 << 40, "80 80 80 80 80 20"},
		{1<<42 - 1, "ff ff ff ff ff 7f"},
		{1 << 42, "80 80 80 80 80 80 01"},
		{1<<49 - 1, "ff ff ff ff ff ff 7f"},
		{1 << 49, "80 80 80 80 80 80 80 01"},
		{1<<56 - 1, "ff ff ff ff ff ff ff 7f"},
		{1 << 56, "80 80 80 80 80 80 80 80 01"},
		{math.MaxInt64 - 1, "fe ff ff ff ff ff ff ff 7f"},
		{math.MaxInt64, "ff ff ff ff ff ff ff ff 7f"},
		{1 | 2<<7 | 3<<14 | 4<<21 | 5<<28 | 6<<35 | 7<<42 | 8<<49 | 9<<56, "81 82 83 84 85 86 87 88 09"},
	}
	for _, c := range cases {
		writtenNum(t, c.v, bytesOf(c.want))
		r := wire.Read(bytesOf(c.want))
		if v := r.Num(math.MaxInt64); v != c.v {
			t.Errorf("P11.1: Num of %s: %d", c.want, v)
		}
		good(t, c.want, r, 0)
	}
}

func TestNumOfEachPower(t *testing.T) {
	for _, v := range edges() {
		writtenNum(t, v, told(v))
	}
}

func TestNumBelowNought(t *testing.T) {
	for _, v := range edges()[1:] {
		writtenNum(t, -v, []byte{0})
	}
	writtenNum(t, math.MinInt64, []byte{0})
}

func lengths() []int {
	return []int{0, 1, 2, 63, 64, 126, 127, 128, 129, 255, 256, 16383, 16384, 16385, api.MaxPlain, 1<<21 - 1, 1 << 21}
}

func TestBytesAndText(t *testing.T) {
	for _, n := range lengths() {
		for _, x := range [][]byte{mixed(n), make([]byte, n), bytes.Repeat([]byte{255}, n)} {
			want := slices.Concat(told(int64(n)), x)
			written(t, "Bytes", func(b []byte) []byte { return wire.Bytes(b, x) }, want)
			written(t, "Text", func(b []byte) []byte { return wire.Text(b, string(x)) }, want)
		}
	}
	written(t, "Bytes of none", func(b []byte) []byte { return wire.Bytes(b, nil) }, []byte{0})
	written(t, "Bytes", func(b []byte) []byte { return wire.Bytes(b, []byte("ann")) }, []byte("\x03ann"))
	written(t, "Text", func(b []byte) []byte { return wire.Text(b, "ann") }, []byte("\x03ann"))
}

// A text's length is that of its bytes, whatever they are.
func TestTextOfAnyBytes(t *testing.T) {
	for s, want := range map[string]string{"é": "\x02é", "\x00": "\x01\x00", "\xff\xfe": "\x02\xff\xfe", "人\n": "\x04人\n", "\xe4\xba": "\x02\xe4\xba"} {
		written(t, "Text", func(b []byte) []byte { return wire.Text(b, s) }, []byte(want))
		r := wire.Read([]byte(want))
		if got := r.Text(len(s)); got != s {
			t.Errorf("P11.1: Text of %q: %q", want, got)
		}
		good(t, want, r, 0)
	}
}

func TestWord(t *testing.T) {
	words := []api.Word{{}, api.Word(bytes.Repeat([]byte{255}, 32)), {1}, {31: 1}}
	for i := range 8 {
		words = append(words, mixedWord(i))
	}
	for _, w := range words {
		written(t, "Word", func(b []byte) []byte { return wire.Word(b, w) }, w[:])
		r := wire.Read(w[:])
		if got := r.Word(); got != w {
			t.Errorf("P11.1: Word of %x: %x", w, got)
		}
		good(t, "a Word", r, 0)
	}
}

func TestAllReadAgain(t *testing.T) {
	var b []byte
	var checks []func(r *wire.Reader) bool
	for _, v := range edges() {
		b = wire.Num(b, v)
		checks = append(checks, func(r *wire.Reader) bool { return r.Num(v) == v })
	}
	for i, n := range []int{0, 1, 2, 127, 128, 300, 0, 16384} {
		x, s, w, g := mixed(n), string(mixed(n + 1)[1:]), mixedWord(i), api.Sig(mixed(64 + i)[i:])
		b = append(wire.Word(wire.Text(wire.Bytes(b, x), s), w), g[:]...)
		checks = append(checks,
			func(r *wire.Reader) bool { return bytes.Equal(r.Bytes(n), x) },
			func(r *wire.Reader) bool { return r.Text(n) == s },
			func(r *wire.Reader) bool { return r.Word() == w },
			func(r *wire.Reader) bool { return r.Sig() == g })
	}
	r := wire.Read(b)
	for i, check := range checks {
		if r.Bad() || r.End() {
			t.Fatalf("P11.1: ahead of number %d: Bad is %v, End is %v", i, r.Bad(), r.End())
		}
		if !check(r) {
			t.Fatalf("P11.1: number %d is not read again", i)
		}
	}
	good(t, "all read", r, 0)
	bad(t, "behind the end", asks(r, func(r *wire.Reader) { r.Num(9) }))
}

// asks is r, after it was asked for something.
func asks(r *wire.Reader, call func(r *wire.Reader)) *wire.Reader {
	call(r)
	return r
}

// What is written one behind the other is what each writes alone.
func TestWrittenInAnyOrder(t *testing.T) {
	w := mixedWord(2)
	got := wire.Num(wire.Text(wire.Num(wire.Word(wire.Bytes(wire.Text(nil, "a"), []byte("bc")), w), 128), strings.Repeat("d", 130)), 0)
	want := slices.Concat([]byte("\x01a\x02bc"), w[:], []byte("\x80\x01\x82\x01"), bytes.Repeat([]byte("d"), 130), []byte{0})
	if !bytes.Equal(got, want) {
		t.Errorf("P11.1: one behind the other: %x", got)
	}
}
