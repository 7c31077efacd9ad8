package octet_test

import (
	"bytes"
	"encoding/hex"
	"math"
	"testing"
	"time"

	"bandbox/api"
	"bandbox/octet"
)

const sample = 0x0102030405060708

func TestBigAndLittleWriteTheLowestBytes(t *testing.T) {
	cases := []struct {
		n           int
		big, little string
	}{
		{math.MinInt, "", ""},
		{-1, "", ""},
		{0, "", ""},
		{1, "08", "08"},
		{2, "0708", "0807"},
		{3, "060708", "080706"},
		{4, "05060708", "08070605"},
		{5, "0405060708", "0807060504"},
		{6, "030405060708", "080706050403"},
		{7, "02030405060708", "08070605040302"},
		{8, "0102030405060708", "0807060504030201"},
		{9, "0102030405060708", "0807060504030201"},
		{math.MaxInt, "0102030405060708", "0807060504030201"},
	}
	for _, ahead := range []string{"", "ff", "00010203040506070809"} {
		for _, c := range cases {
			b, _ := hex.DecodeString(ahead)
			if got := hex.EncodeToString(octet.Big(b, sample, c.n)); got != ahead+c.big {
				t.Errorf("P1.1: Big(%s, v, %d) = %s", ahead, c.n, got)
			}
			if got := hex.EncodeToString(octet.Little(b, sample, c.n)); got != ahead+c.little {
				t.Errorf("P1.1: Little(%s, v, %d) = %s", ahead, c.n, got)
			}
		}
	}
}

func TestNumbersAtTheirEdges(t *testing.T) {
	cases := []struct {
		v           uint64
		big, little string
	}{
		{0, "0000000000000000", "0000000000000000"},
		{1, "0000000000000001", "0100000000000000"},
		{1 << 63, "8000000000000000", "0000000000000080"},
		{math.MaxUint64, "ffffffffffffffff", "ffffffffffffffff"},
	}
	for _, c := range cases {
		if got := hex.EncodeToString(octet.Big(nil, c.v, 8)); got != c.big {
			t.Errorf("P1.1: Big(nil, %d, 8) = %s", c.v, got)
		}
		if got := hex.EncodeToString(octet.Little(nil, c.v, 8)); got != c.little {
			t.Errorf("P1.1: Little(nil, %d, 8) = %s", c.v, got)
		}
	}
}

func TestFromBigAndFromLittleRead(t *testing.T) {
	cases := []struct {
		b           []byte
		big, little uint64
	}{
		{nil, 0, 0},
		{[]byte{}, 0, 0},
		{[]byte{7}, 7, 7},
		{[]byte{1, 2}, 258, 513},
		{[]byte{0x80, 0, 0}, 1 << 23, 128},
		{[]byte{0, 0, 0, 0, 1}, 1, 1 << 32},
		{[]byte{1, 2, 3, 4, 5, 6, 7, 8}, sample, 0x0807060504030201},
		{[]byte{0, 0, 0, 0, 0, 0, 0, 128}, 128, 1 << 63},
		{bytes.Repeat([]byte{255}, 8), math.MaxUint64, math.MaxUint64},
	}
	for _, c := range cases {
		if v, e := octet.FromBig(c.b); v != c.big || e != api.OK {
			t.Errorf("P1.1: FromBig(%v) = %d, %d", c.b, v, e)
		}
		if v, e := octet.FromLittle(c.b); v != c.little || e != api.OK {
			t.Errorf("P1.1: FromLittle(%v) = %d, %d", c.b, v, e)
		}
	}
}

func TestFromBigAndFromLittleRefuseMoreThanEight(t *testing.T) {
	for _, n := range []int{9, 10, 16, 1000} {
		for _, c := range []byte{0, 1, 255} {
			b := bytes.Repeat([]byte{c}, n)
			if v, e := octet.FromBig(b); v != 0 || e != api.EARG {
				t.Errorf("P1.1: FromBig of %d bytes %d = %d, %d", n, c, v, e)
			}
			if v, e := octet.FromLittle(b); v != 0 || e != api.EARG {
				t.Errorf("P1.1: FromLittle of %d bytes %d = %d, %d", n, c, v, e)
			}
		}
	}
}

func TestWhatIsWrittenIsRead(t *testing.T) {
	for n := 0; n <= 8; n++ {
		want := uint64(sample) & (1<<(8*n) - 1)
		if v, e := octet.FromBig(octet.Big(nil, sample, n)); v != want || e != api.OK {
			t.Errorf("P1.1: FromBig of Big of %d bytes: %x, %d", n, v, e)
		}
		if v, e := octet.FromLittle(octet.Little(nil, sample, n)); v != want || e != api.OK {
			t.Errorf("P1.1: FromLittle of Little of %d bytes: %x, %d", n, v, e)
		}
	}
}

func TestHexAndUnhexOfEveryByte(t *testing.T) {
	all := make([]byte, 256)
	for i := range all {
		all[i] = byte(i)
	}
	want := hex.EncodeToString(all)
	if got := octet.Hex(all); got != want {
		t.Errorf("P1.1: Hex of all bytes: %s", got)
	}
	if got, e := octet.Unhex(want); !bytes.Equal(got, all) || e != api.OK {
		t.Errorf("P1.1: Unhex of all bytes: %x, %d", got, e)
	}
	if got := octet.Hex(nil); got != "" {
		t.Errorf("P1.1: Hex of none: %q", got)
	}
	if got, e := octet.Unhex(""); len(got) != 0 || e != api.OK {
		t.Errorf("P1.1: Unhex of none: %x, %d", got, e)
	}
	if got := octet.Hex(octet.Big(nil, 258, 2)); got != "0102" {
		t.Errorf("the chapter's example: %s", got)
	}
}

func refused(t *testing.T, s string) {
	t.Helper()
	if b, e := octet.Unhex(s); len(b) != 0 || e != api.EFORM {
		t.Errorf("P1.1: Unhex(%q) = %x, %d", s, b, e)
	}
}

func TestUnhexRefusesWhatIsNotHex(t *testing.T) {
	for _, s := range []string{"0", "a", "000", "abc", "0x", "0x00", " 00", "00 ", "0 0", "00\n", "-", "--", "+1", "-1", "AA", "aB", "é", "٠٠", "00\x00\x00", "\xff\xff", "aabbccddg0"} {
		refused(t, s)
	}
}

func TestUnhexTakesSmallDigitsAlone(t *testing.T) {
	for i := range 256 {
		c := byte(i)
		if '0' <= c && c <= '9' || 'a' <= c && c <= 'f' {
			continue
		}
		refused(t, string([]byte{c, '0'}))
		refused(t, string([]byte{'0', c}))
		refused(t, string([]byte{'0', '0', c, '0'}))
	}
}

func TestEqual(t *testing.T) {
	cases := []struct {
		a, b string
		want bool
	}{
		{"", "", true},
		{"a", "", false},
		{"\x00", "", false},
		{"a", "a", true},
		{"abc", "abc", true},
		{"abc", "abd", false},
		{"abc", "bbc", false},
		{"abc", "acc", false},
		{"abc", "ab", false},
		{"abc", "abc\x00", false},
		{"ab", "ba", false},
		{"\x00\x00", "\x00\x01", false},
		{"\x01\x01", "\x02\x02", false},
		{"\x7f", "\xff", false},
	}
	for _, c := range cases {
		a, b := []byte(c.a), []byte(c.b)
		if octet.Equal(a, b) != c.want || octet.Equal(b, a) != c.want {
			t.Errorf("P1.1: Equal(%q, %q) is not %v", c.a, c.b, c.want)
		}
	}
	if !octet.Equal(nil, []byte{}) || !octet.Equal([]byte{}, nil) || !octet.Equal(nil, nil) {
		t.Error("R4: nil and an empty list are not alike")
	}
}

func TestEqualSeesEveryBit(t *testing.T) {
	a := bytes.Repeat([]byte{0x5a}, 40)
	for i := range 8 * len(a) {
		b := bytes.Clone(a)
		b[i/8] ^= 1 << (i % 8)
		if octet.Equal(a, b) || octet.Equal(b, a) {
			t.Errorf("P1.1: Equal passes over bit %d", i)
		}
	}
}

func TestEqualSeesLengthsFarApart(t *testing.T) {
	for n := range 20 {
		a, b := make([]byte, 3), make([]byte, 3+1<<n)
		if octet.Equal(a, b) || octet.Equal(b, a) {
			t.Errorf("P1.1: Equal of %d and %d noughts", len(a), len(b))
		}
	}
}

// An Equal that goes out early is some ten thousand times as fast here, so a factor of ten tells it from noise.
func TestEqualLooksAtAllBytesOfTheShorterOne(t *testing.T) {
	const size = 1 << 20
	a, alike, first := make([]byte, size), make([]byte, size), make([]byte, size)
	first[0] = 1
	longer := make([]byte, size+1)
	took := func(b []byte) time.Duration {
		begin := time.Now()
		octet.Equal(a, b)
		return time.Since(begin)
	}
	least := [3]time.Duration{time.Hour, time.Hour, time.Hour}
	for range 15 {
		for i, b := range [][]byte{alike, first, longer} {
			least[i] = min(least[i], took(b))
		}
	}
	if least[1] < least[0]/10 {
		t.Errorf("P1.1: Equal took %v, but %v where the first byte differs", least[0], least[1])
	}
	if least[2] < least[0]/10 {
		t.Errorf("P1.1: Equal took %v, but %v of unlike lengths", least[0], least[2])
	}
}

func TestXor(t *testing.T) {
	cases := []struct{ a, b, want string }{
		{"", "", ""},
		{"abc", "", ""},
		{"abc", "abc", "\x00\x00\x00"},
		{"abc", "\x00\x00\x00", "abc"},
		{"abc", "ab", "\x00\x00"},
		{"\xff\xf0", "\x0f\x0fzzz", "\xf0\xff"},
		{"\x01\x02\x03", "\x10\x20\x30", "\x11\x22\x33"},
	}
	for _, c := range cases {
		a, b := []byte(c.a), []byte(c.b)
		if x, y := octet.Xor(a, b), octet.Xor(b, a); string(x) != c.want || string(y) != c.want {
			t.Errorf("P1.1: Xor(%q, %q) = %q, %q", c.a, c.b, x, y)
		}
	}
	if len(octet.Xor(nil, []byte{1})) != 0 || len(octet.Xor(nil, nil)) != 0 {
		t.Error("P1.1: Xor with nil is not empty")
	}
}

func TestTurn(t *testing.T) {
	for s, want := range map[string]string{"": "", "a": "a", "ab": "ba", "abc": "cba", "abcd": "dcba", "\x00\xff": "\xff\x00"} {
		if got := octet.Turn([]byte(s)); string(got) != want {
			t.Errorf("P1.1: Turn(%q) = %q", s, got)
		}
	}
	if len(octet.Turn(nil)) != 0 {
		t.Error("P1.1: Turn(nil) is not empty")
	}
}

// calls are those that take a list and answer one.
func calls() map[string]func(b []byte) []byte {
	return map[string]func(b []byte) []byte{
		"Big 0":     func(b []byte) []byte { return octet.Big(b, sample, 0) },
		"Big 4":     func(b []byte) []byte { return octet.Big(b, sample, 4) },
		"Big 9":     func(b []byte) []byte { return octet.Big(b, sample, 9) },
		"Little -1": func(b []byte) []byte { return octet.Little(b, sample, -1) },
		"Little 4":  func(b []byte) []byte { return octet.Little(b, sample, 4) },
		"Little 9":  func(b []byte) []byte { return octet.Little(b, sample, 9) },
		"Xor, left": func(b []byte) []byte { return octet.Xor(b, make([]byte, 100)) },
		"Xor, right": func(b []byte) []byte {
			return octet.Xor(make([]byte, 100), b)
		},
		"Xor, both": func(b []byte) []byte { return octet.Xor(b, b) },
		"Turn":      octet.Turn,
	}
}

// whole is five bytes of a longer row: b has spare room behind it, and row shows that, too.
func whole() (row, b []byte) {
	row = []byte{1, 2, 3, 4, 5, 91, 92, 93, 94, 95, 96, 97, 98, 99, 100, 101}
	return row, row[:5]
}

func scribble(b []byte) {
	b = b[:cap(b)]
	for i := range b {
		b[i] = 0xee
	}
}

func TestListsHandedInAreNotChangedAndNotHandedBack(t *testing.T) {
	for name, call := range calls() {
		row, b := whole()
		before := bytes.Clone(row)
		first := call(b)
		kept := bytes.Clone(first)
		if !bytes.Equal(row, before) {
			t.Errorf("R4: %s changed what was handed in: %v", name, row)
		}
		second := call(b)
		scribble(second)
		if !bytes.Equal(first, kept) {
			t.Errorf("R4: %s: two answers share memory", name)
		}
		scribble(first)
		if !bytes.Equal(row, before) {
			t.Errorf("R4: %s handed back what was handed in: %v", name, row)
		}
	}
}

func TestAnswersDoNotHangOnWhatWasHandedInLater(t *testing.T) {
	for name, call := range calls() {
		row, b := whole()
		got := call(b)
		kept := bytes.Clone(got)
		scribble(row)
		if !bytes.Equal(got, kept) {
			t.Errorf("R4: %s shares memory with what was handed in", name)
		}
	}
	row, b := whole()
	text := octet.Hex(b)
	scribble(row)
	if text != "0102030405" {
		t.Errorf("R4: Hex shares memory with what was handed in: %s", text)
	}
}

func TestReadersChangeNothing(t *testing.T) {
	row, b := whole()
	before := bytes.Clone(row)
	octet.FromBig(b)
	octet.FromLittle(b)
	octet.FromBig(row)
	octet.FromLittle(row)
	octet.Hex(b)
	octet.Equal(b, row)
	octet.Equal(row, b)
	if !bytes.Equal(row, before) {
		t.Errorf("R4: a list that was handed in was changed: %v", row)
	}
}

func TestUnhexAnswersNewMemory(t *testing.T) {
	first, _ := octet.Unhex("010203")
	second, _ := octet.Unhex("010203")
	scribble(first)
	if octet.Hex(second) != "010203" {
		t.Error("R4: two answers of Unhex share memory")
	}
}

func TestNilAndAnEmptyListAreOne(t *testing.T) {
	for name, call := range calls() {
		if x, y := call(nil), call([]byte{}); !bytes.Equal(x, y) {
			t.Errorf("R4: %s: %v of nil, %v of an empty list", name, x, y)
		}
	}
}
