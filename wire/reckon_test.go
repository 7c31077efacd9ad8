package wire_test

import (
	"bytes"
	"encoding/binary"
	"encoding/hex"
	"math"
	"strings"
	"testing"

	"bandbox/api"
	"bandbox/wire"
)

// mixed is n bytes, no two neighbours alike; one of them has the bit 128.
func mixed(n int) []byte {
	b := make([]byte, n)
	for i := range b {
		b[i] = byte(i*7 + i>>5*31 + 131)
	}
	return b
}

func mixedWord(n int) api.Word {
	return api.Word(mixed(32*n + 32)[32*n:])
}

func bytesOf(s string) []byte {
	b, err := hex.DecodeString(strings.ReplaceAll(s, " ", ""))
	if err != nil {
		panic(err)
	}
	return b
}

// told reckons a number's bytes in another way.
func told(v int64) []byte {
	return binary.AppendUvarint(nil, uint64(max(v, 0)))
}

// reckoned reads the number that b begins with in another way: false, if it begins with none.
func reckoned(b []byte) (v int64, size int, ok bool) {
	u, size := binary.Uvarint(b)
	if size <= 0 || u > math.MaxInt64 || !bytes.HasPrefix(b, told(int64(u))) || size != len(told(int64(u))) {
		return 0, 0, false
	}
	return int64(u), size, true
}

// edges are numbers about each power of 2, rising; the last one is 2^63 - 1.
func edges() []int64 {
	out := []int64{0}
	for i := range 63 {
		for _, d := range []int64{-1, 0, 1} {
			if v := int64(1)<<i + d; v > out[len(out)-1] {
				out = append(out, v)
			}
		}
	}
	return append(out, math.MaxInt64)
}

// tells is what a reader can be asked for, and whether it told a zero then.
type tells struct {
	name string
	zero func(r *wire.Reader) bool
}

func asked() []tells {
	return []tells{
		{"Num", func(r *wire.Reader) bool { return r.Num(math.MaxInt64) == 0 }},
		{"Num of most 0", func(r *wire.Reader) bool { return r.Num(0) == 0 }},
		{"Num of most -1", func(r *wire.Reader) bool { return r.Num(-1) == 0 }},
		{"Bytes", func(r *wire.Reader) bool { return len(r.Bytes(math.MaxInt)) == 0 }},
		{"Bytes of most 0", func(r *wire.Reader) bool { return len(r.Bytes(0)) == 0 }},
		{"Bytes of most -1", func(r *wire.Reader) bool { return len(r.Bytes(-1)) == 0 }},
		{"Text", func(r *wire.Reader) bool { return r.Text(math.MaxInt) == "" }},
		{"Text of most 0", func(r *wire.Reader) bool { return r.Text(0) == "" }},
		{"Text of most -1", func(r *wire.Reader) bool { return r.Text(-1) == "" }},
		{"Word", func(r *wire.Reader) bool { return r.Word() == api.Word{} }},
		{"Sig", func(r *wire.Reader) bool { return r.Sig() == api.Sig{} }},
	}
}

// bad fails where r is not, or does not stay so.
func bad(t *testing.T, what string, r *wire.Reader) {
	t.Helper()
	for _, a := range asked() {
		if !r.Bad() || r.End() {
			t.Errorf("P11.1: %s: Bad is %v, End is %v, ahead of %s", what, r.Bad(), r.End(), a.name)
		}
		if !a.zero(r) {
			t.Errorf("P11.1: %s: %s tells something", what, a.name)
		}
	}
	if !r.Bad() || r.End() {
		t.Errorf("P11.1: %s: Bad is %v, End is %v, at last", what, r.Bad(), r.End())
	}
}

// good fails where r is bad, or has not just so many bytes left.
func good(t *testing.T, what string, r *wire.Reader, left int) {
	t.Helper()
	for range 2 {
		if r.Bad() || r.End() != (left == 0) {
			t.Errorf("P11.1: %s: Bad is %v, End is %v", what, r.Bad(), r.End())
		}
	}
	for range left {
		if r.Bad() || r.End() {
			t.Errorf("P11.1: %s: less than %d bytes are left", what, left)
			return
		}
		// A byte 0 stands for the number 0: what is left is noughts, in these tests.
		if r.Num(0) != 0 || r.Bad() {
			t.Errorf("P11.1: %s: what is left is not told", what)
			return
		}
	}
	if !r.End() {
		t.Errorf("P11.1: %s: more than %d bytes are left", what, left)
	}
}
