package pad_test

import (
	"bytes"
	"math"
	"testing"

	"bandbox/api"
	"bandbox/pad"
)

func TestTheChaptersExamples(t *testing.T) {
	for n, want := range map[int]int{63: 64, 64: 128} {
		if size, e := pad.Bucket(n); size != want || e != api.OK {
			t.Errorf("P12.1: Bucket(%d): %d, %d", n, size, e)
		}
	}
}

func TestBucketAtItsEdges(t *testing.T) {
	cases := []struct{ n, want int }{
		{0, 64}, {1, 64}, {2, 64}, {62, 64}, {63, 64},
		{64, 128}, {65, 128}, {126, 128}, {127, 128},
		{128, 256}, {129, 256}, {255, 256},
		{256, 512}, {257, 512}, {511, 512},
		{512, 1024}, {513, 1024}, {1023, 1024},
		{1024, 2048}, {1025, 2048}, {2047, 2048},
		{2048, 4096}, {2049, 4096}, {4095, 4096},
		{4096, 8192}, {4097, 8192}, {8191, 8192},
		{8192, 16384}, {8193, 16384}, {16383, 16384},
		{16384, 32768}, {16385, 32768}, {32767, 32768},
		{32768, 65536}, {32769, 65536}, {65534, 65536}, {65535, 65536},
	}
	for _, c := range cases {
		if size, e := pad.Bucket(c.n); size != c.want || e != api.OK {
			t.Errorf("P12.1: Bucket(%d): %d, %d; wanted is %d", c.n, size, e, c.want)
		}
	}
}

func TestBucketOfEachNumber(t *testing.T) {
	for n := range 65536 {
		if size, e := pad.Bucket(n); size != reckoned(n) || e != api.OK {
			t.Fatalf("P12.1: Bucket(%d): %d, %d", n, size, e)
		}
	}
}

func TestBucketRefuses(t *testing.T) {
	for _, n := range []int{-1, -2, -63, -64, -65, -65536, -65537, math.MinInt32, math.MinInt + 1, math.MinInt} {
		if size, e := pad.Bucket(n); size != 0 || e != api.EARG {
			t.Errorf("P12.1: Bucket(%d): %d, %d", n, size, e)
		}
	}
	for _, n := range []int{65536, 65537, 65538, 131071, 131072, math.MaxInt32, 1 << 62, math.MaxInt - 1, math.MaxInt} {
		if size, e := pad.Bucket(n); size != 0 || e != api.ELIMIT {
			t.Errorf("P12.1: Bucket(%d): %d, %d", n, size, e)
		}
	}
}

func TestPadOfShortTexts(t *testing.T) {
	cases := map[string]string{
		"":         "\x80",
		"a":        "a\x80",
		"\x00":     "\x00\x80",
		"\x80":     "\x80\x80",
		"\x80\x00": "\x80\x00\x80",
		"ann":      "ann\x80",
		"\xff\x7f": "\xff\x7f\x80",
	}
	for s, begin := range cases {
		want := append([]byte(begin), make([]byte, 64-len(begin))...)
		if got, e := pad.Pad([]byte(s)); e != api.OK || !bytes.Equal(got, want) {
			t.Errorf("P12.1: Pad of %q: %q, %d", s, got, e)
		}
	}
}

func TestPadAtTheEdgesOfBuckets(t *testing.T) {
	for _, n := range lengths() {
		for i, b := range texts(n) {
			got, e := pad.Pad(b)
			if e != api.OK || !bytes.Equal(got, filled(b, reckoned(n))) {
				t.Errorf("P12.1: Pad of %d bytes, kind %d: %d bytes, %d", n, i, len(got), e)
			}
		}
	}
}

// What is as long as a bucket needs the next one: the byte 128 has no room.
func TestPadIsAlwaysLonger(t *testing.T) {
	for _, size := range buckets()[:10] {
		if got, e := pad.Pad(make([]byte, size)); e != api.OK || len(got) != 2*size || got[size] != 128 {
			t.Errorf("P12.1: Pad of %d bytes: %d bytes, %d", size, len(got), e)
		}
	}
}

func TestPadOfTheLongest(t *testing.T) {
	b := mixed(65535)
	got, e := pad.Pad(b)
	if e != api.OK || len(got) != 65536 || !bytes.Equal(got[:65535], b) || got[65535] != 128 {
		t.Errorf("P12.1: Pad of 65535 bytes: %d bytes, %d", len(got), e)
	}
	for _, n := range []int{65536, 65537, 131071, 131072, 1 << 20} {
		for i, b := range texts(n) {
			if got, e := pad.Pad(b); e != api.ELIMIT || len(got) != 0 {
				t.Errorf("P12.1: Pad of %d bytes, kind %d: %d bytes, %d", n, i, len(got), e)
			}
		}
	}
}

func TestPadOfAllLengthsAndBack(t *testing.T) {
	for n := range 2100 {
		b := mixed(n)
		got, e := pad.Pad(b)
		if e != api.OK || !bytes.Equal(got, filled(b, reckoned(n))) {
			t.Fatalf("P12.1: Pad of %d bytes: %d bytes, %d", n, len(got), e)
		}
		shown(t, "Pad", got, b)
	}
}

func TestAnswersHangOnNothingElse(t *testing.T) {
	b := mixed(100)
	want := filled(b, 128)
	for range 3 {
		pad.Bucket(-1)
		pad.Pad(make([]byte, 65536))
		refused(t, "none", nil)
		if size, e := pad.Bucket(100); size != 128 || e != api.OK {
			t.Errorf("R5: Bucket(100): %d, %d", size, e)
		}
		if got, e := pad.Pad(b); e != api.OK || !bytes.Equal(got, want) {
			t.Errorf("R5: Pad: %d bytes, %d", len(got), e)
		}
		shown(t, "R5: Pad", want, b)
	}
}
