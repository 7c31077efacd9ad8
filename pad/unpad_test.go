package pad_test

import (
	"bytes"
	"slices"
	"strconv"
	"strings"
	"testing"

	"bandbox/api"
	"bandbox/pad"
)

func TestUnpadOfPad(t *testing.T) {
	for _, n := range lengths() {
		for i, x := range texts(n) {
			b, e := pad.Pad(x)
			if e != api.OK {
				t.Fatalf("P12.1: Pad of %d bytes: %d", n, e)
			}
			shown(t, "Pad of kind "+strconv.Itoa(i), b, x)
			shown(t, "what Pad would tell of kind "+strconv.Itoa(i), filled(x, reckoned(n)), x)
		}
	}
}

func TestUnpadOfTheLongest(t *testing.T) {
	for i, x := range texts(65535) {
		shown(t, "65535 bytes of kind "+strconv.Itoa(i), append(bytes.Clone(x), 128), x)
	}
	shown(t, "half of them", filled(mixed(32768), 65536), mixed(32768))
	refused(t, "one less than half of them", filled(mixed(32767), 65536))
}

func TestUnpadOfNone(t *testing.T) {
	refused(t, "nil", nil)
	refused(t, "an empty list", []byte{})
	shown(t, "Pad of none", filled(nil, 64), nil)
}

func TestUnpadOfNoughtsAlone(t *testing.T) {
	for _, n := range append(lengths(), 65536, 65537, 131072) {
		refused(t, "noughts alone", make([]byte, n))
	}
}

func TestUnpadOfALengthThatIsNoBucket(t *testing.T) {
	for _, n := range []int{1, 2, 16, 32, 63, 65, 96, 127, 129, 192, 255, 257, 320, 640, 1000, 65535, 65537, 98304, 131071, 131072, 131073, 1 << 20} {
		for _, at := range []int{0, 1, 31, n / 2, n - 2, n - 1} {
			if at >= 0 && at < n {
				refused(t, "no bucket with 128 at "+strconv.Itoa(at), filled(mixed(at), n))
			}
		}
	}
	for n := range 2100 {
		if !slices.Contains(buckets(), n) {
			refused(t, "no bucket", append(mixed(n), 128)[1:])
		}
	}
}

func TestUnpadOfABucketThatIsNotTheLeast(t *testing.T) {
	for i, size := range buckets()[1:] {
		smaller := buckets()[i]
		for _, n := range []int{0, 1, 2, smaller / 2, smaller - 2, smaller - 1} {
			refused(t, "too long a bucket of "+strconv.Itoa(n), filled(mixed(n), size))
		}
		for _, n := range []int{smaller, smaller + 1, size - 2, size - 1} {
			shown(t, "the least bucket of "+strconv.Itoa(n), filled(mixed(n), size), mixed(n))
		}
	}
}

// Twice the last bucket is none, wherever the byte 128 stands.
func TestUnpadOfMoreThanTheLastBucket(t *testing.T) {
	for _, n := range []int{0, 1, 65535, 65536, 65537, 131070, 131071} {
		refused(t, "twice the last bucket with 128 at "+strconv.Itoa(n), filled(mixed(n), 131072))
	}
}

func TestUnpadOfEachLastByte(t *testing.T) {
	for _, size := range []int{64, 128, 65536} {
		for c := range 256 {
			x := append(mixed(size-2), 'x')
			b := append(bytes.Clone(x), byte(c))
			if c == 128 {
				shown(t, "128 as the last byte", b, x)
				continue
			}
			refused(t, "the last byte "+strconv.Itoa(c), b)
		}
	}
}

// Each byte ahead of the noughts but 128 is refused, though there is a 128 farther ahead.
func TestUnpadOfEachByteAheadOfNoughts(t *testing.T) {
	for c := 1; c < 256; c++ {
		b := filled([]byte("ann\x80"), 64)
		b[4] = byte(c)
		if c == 128 {
			shown(t, "128 ahead of noughts", b, []byte("ann\x80"))
			continue
		}
		refused(t, "ahead of noughts "+strconv.Itoa(c), b)
	}
}

// A byte within the filling that is no nought is not filling.
func TestUnpadOfSpoiltFilling(t *testing.T) {
	for _, size := range []int{64, 128, 1024} {
		x := mixed(size / 2)
		for at := size/2 + 1; at < size; at++ {
			for _, c := range []byte{1, 64, 127, 129, 255} {
				b := filled(x, size)
				b[at] = c
				refused(t, "filling that is spoilt at "+strconv.Itoa(at), b)
			}
		}
	}
}

func TestUnpadWithoutA128(t *testing.T) {
	for _, size := range buckets() {
		for _, c := range []byte{1, 127, 129, 255} {
			refused(t, "a byte alone", bytes.Repeat([]byte{c}, size))
			refused(t, "a byte ahead of noughts", append([]byte{c}, make([]byte, size-1)...))
		}
	}
}

func TestUnpadOf128Alone(t *testing.T) {
	for _, n := range append(lengths(), 65536, 65537, 131072) {
		b := bytes.Repeat([]byte{128}, n)
		if slices.Contains(buckets(), n) {
			shown(t, "128 alone", b, b[:n-1])
			continue
		}
		refused(t, "128 alone", b)
	}
}

func TestUnpadOfMoreOrLessThanPad(t *testing.T) {
	for _, n := range lengths() {
		b := filled(mixed(n), reckoned(n))
		refused(t, "Pad less a byte", b[:len(b)-1])
		refused(t, "Pad less its first byte", b[1:])
		refused(t, "Pad and a nought", append(bytes.Clone(b), 0))
		refused(t, "Pad and 128", append(bytes.Clone(b), 128))
		refused(t, "Pad and as many noughts", append(bytes.Clone(b), make([]byte, len(b))...))
	}
}

// Each answer is held against one that is reckoned in another way.
func TestUnpadOfAnyBytes(t *testing.T) {
	kinds := []byte{0, 1, 127, 128, 129, 255}
	for _, n := range []int{0, 1, 63, 64, 65, 128, 129, 192, 256} {
		for _, at := range []int{0, 1, 31, 62, 63, 64, 65, 126, 127, 128, 189, 253} {
			for _, one := range kinds {
				for _, two := range kinds {
					for _, ahead := range texts(min(at, n)) {
						b := make([]byte, n)
						copy(b, ahead)
						copy(b[len(ahead):], []byte{one, two})
						held(t, b)
					}
				}
			}
		}
	}
}

func held(t *testing.T, b []byte) {
	t.Helper()
	x, ok := unfilled(b)
	if !ok {
		refused(t, "no Pad", b)
		return
	}
	shown(t, "a Pad", b, x)
	if again, e := pad.Pad(x); e != api.OK || !bytes.Equal(again, b) {
		t.Errorf("P12.1: Pad of what Unpad tells, %d bytes: %d bytes, %d", len(x), len(again), e)
	}
}

func TestWithARefusalNothingElseIsAnswered(t *testing.T) {
	for _, s := range []string{"", "\x80", strings.Repeat("x", 64), strings.Repeat("\x80", 65), "ann\x80" + strings.Repeat("\x00", 124)} {
		if x, e := pad.Unpad([]byte(s)); len(x) != 0 || e != api.EFORM {
			t.Errorf("R2: Unpad of %d bytes: %q, %d", len(s), x, e)
		}
	}
	if x, e := pad.Pad(mixed(65536)); len(x) != 0 || cap(x) != 0 || e != api.ELIMIT {
		t.Errorf("R2: Pad of 65536 bytes: %d bytes, %d", len(x), e)
	}
}
