package pad_test

import (
	"bytes"
	"slices"
	"testing"

	"bandbox/api"
	"bandbox/pad"
)

// buckets are all that there are, as the chapter tells them.
func buckets() []int {
	return []int{64, 128, 256, 512, 1024, 2048, 4096, 8192, 16384, 32768, 65536}
}

// reckoned is n's bucket, looked up in the row of them; n is from 0 to 65535.
func reckoned(n int) int {
	at, _ := slices.BinarySearch(buckets(), n+1)
	return buckets()[at]
}

// filled is b, a byte 128, and noughts to size bytes; size is above len(b).
func filled(b []byte, size int) []byte {
	return slices.Concat(b, []byte{128}, make([]byte, size-len(b)-1))
}

// unfilled reckons in another way what b is Pad of: it begins with b's length, not with its end.
func unfilled(b []byte) (x []byte, ok bool) {
	if !slices.Contains(buckets(), len(b)) {
		return nil, false
	}
	at := bytes.LastIndexByte(b, 128)
	if at < 0 || !bytes.Equal(b[at+1:], make([]byte, len(b)-at-1)) {
		return nil, false
	}
	if smaller := len(b) / 2; len(b) > 64 && at < smaller {
		return nil, false
	}
	return b[:at], true
}

// mixed is n bytes, no two neighbours alike; noughts and 128 are among them, if n is above 255.
func mixed(n int) []byte {
	b := make([]byte, n)
	for i := range b {
		b[i] = byte(i*7 + i>>8*31 + 131)
	}
	return b
}

// texts are lists of n bytes: of all kinds, and with each of the kinds of byte that filling is made of at the end.
func texts(n int) [][]byte {
	out := [][]byte{mixed(n), make([]byte, n), bytes.Repeat([]byte{128}, n), bytes.Repeat([]byte{255}, n)}
	for _, end := range []string{"\x00", "\x80", "\x80\x00", "\x00\x80", "\x80\x80", "\x80\x00\x00\x00", "a\x00\x00"} {
		if n >= len(end) {
			out = append(out, slices.Concat(mixed(n-len(end)), []byte(end)))
		}
	}
	return out
}

// lengths are those at the edges of the buckets, of what can be padded, rising.
func lengths() []int {
	out := []int{0, 1, 2, 3, 31, 32, 33}
	for _, size := range buckets() {
		for _, n := range []int{size - 2, size - 1, size, size + 1} {
			if n < 65536 {
				out = append(out, n)
			}
		}
	}
	return out
}

// shown fails where Unpad of b is not x.
func shown(t *testing.T, what string, b, x []byte) {
	t.Helper()
	if got, e := pad.Unpad(b); e != api.OK || !bytes.Equal(got, x) {
		t.Errorf("P12.1: Unpad of %s, %d bytes: %d bytes, %d; wanted are %d", what, len(b), len(got), e, len(x))
	}
}

// refused fails where Unpad of b is not EFORM, or answers bytes beside it.
func refused(t *testing.T, what string, b []byte) {
	t.Helper()
	if got, e := pad.Unpad(b); e != api.EFORM || len(got) != 0 {
		t.Errorf("P12.1: Unpad of %s, %d bytes: %d bytes, %d", what, len(b), len(got), e)
	}
}
