package chain_test

import (
	"bytes"
	"encoding/binary"
	"encoding/hex"
	"math"
	"slices"
	"testing"

	"bandbox/api"
	"bandbox/chain"
	"bandbox/sha"
	"bandbox/wire"
)

// put fails where Put writes something else, Get does not tell the record of that, or Sum is not that of those bytes.
func put(t *testing.T, r chain.Record, want []byte) {
	t.Helper()
	if b := chain.Put(r); !bytes.Equal(b, want) {
		t.Errorf("P19.1: Put of %v: %x, not %x", short(r), b[:min(len(b), 99)], want[:min(len(want), 99)])
	}
	if got := chain.Sum(r); got != sha.Of(want) || got != sum(r) {
		t.Errorf("P19.1: Sum of %v: %x, not %x", short(r), got, sum(r))
	}
	got(t, "what Put writes", want, r)
}

// got fails where Get does not tell r.
func got(t *testing.T, what string, b []byte, r chain.Record) {
	t.Helper()
	if x, e := chain.Get(b); !alike(x, r) || e != api.OK {
		t.Errorf("P19.1: Get of %s: %v, %d, not %v", what, short(x), e, short(r))
	}
}

// refused fails where Get takes b, or tells something beside the error.
func refused(t *testing.T, what string, b []byte) {
	t.Helper()
	r, e := chain.Get(b)
	if e != api.EFORM {
		t.Errorf("P19.1: Get of %s, %x: %d", what, b[:min(len(b), 200)], e)
	}
	if !alike(r, chain.Record{}) {
		t.Errorf("R2: Get of %s: %d, and %v", what, e, short(r))
	}
}

// read fails where Get does not tell just what the bytes tell, read in another way; it answers whether they tell a record.
func read(t *testing.T, what string, b []byte) bool {
	t.Helper()
	r, ok := parsed(b)
	if !ok {
		refused(t, what, b)
		return false
	}
	got(t, what, b, r)
	if !bytes.Equal(chain.Put(r), b) {
		t.Errorf("P19.1: Put of what Get tells of %s: %x, not %x", what, chain.Put(r), b)
	}
	return true
}

func TestPutByteByByte(t *testing.T) {
	prev := "0000000000000000000000000000000000000000000000000000000000000000"
	for _, x := range []struct {
		r    chain.Record
		want string
	}{
		{plain(0, 1, api.Word{}, ""), "0001" + prev + "00"},
		{plain(7, 2, api.Word{0xab, 31: 0xcd}, "x"), "0702ab" + prev[4:] + "cd0178"},
		{plain(5, 300, api.Word{}, "body"), "05ac02" + prev + "04626f6479"},
		{plain(3, most, api.Word{}, "\x00\xff"), "03808080808020" + prev + "0200ff"},
	} {
		for _, s := range []api.Sig{{}, {1, 63: 2}, one().Sig} {
			x.r.Sig = s
			want, err := hex.DecodeString(x.want + hex.EncodeToString(s[:]))
			if err != nil {
				t.Fatal(err)
			}
			put(t, x.r, want)
		}
	}
}

func TestPutByWireAlone(t *testing.T) {
	for _, r := range some() {
		b := wire.Bytes(wire.Word(wire.Num(wire.Num(nil, int64(r.Dev)), r.Seq), r.Prev), r.Body)
		put(t, r, append(b, r.Sig[:]...))
		put(t, r, told(r))
	}
}

func TestOfOneThatMayNotBe(t *testing.T) {
	nothing := "e3b0c44298fc1c149afbf4c8996fb92427ae41e4649b934ca495991b7852b855"
	for _, r := range none() {
		if b := chain.Put(r); len(b) != 0 {
			t.Errorf("P19.1: Put of %v: %d bytes", short(r), len(b))
		}
		if s := chain.Sum(r); hex.EncodeToString(s[:]) != nothing {
			t.Errorf("P19.1: Sum of %v: %x, not that of nothing", short(r), s)
		}
		if r.Dev >= 0 && r.Seq >= 0 { // no bytes tell a number below 0
			refused(t, "a record that may not be", told(r))
		}
	}
}

// A known sum, so that no two ways of reckoning err together.
func TestAKnownSum(t *testing.T) {
	r := plain(5, 300, api.Word{}, "body")
	if s := chain.Sum(r); hex.EncodeToString(s[:]) != "1002b6286417eafed094aebb760ac3fbf8c57a43c5c3eff3b6bb9f911441e6d8" {
		t.Errorf("P19.1: Sum: %x", s)
	}
}

func TestGetOfTooFewBytesAndOfTooMany(t *testing.T) {
	refused(t, "nil", nil)
	refused(t, "an empty list", []byte{})
	for _, r := range []chain.Record{one(), plain(0, 1, api.Word{}, ""), plain(7, most, api.Word{1}, allBytes())} {
		b := told(r)
		for n := range b {
			refused(t, "a beginning", b[:n])
			read(t, "an end", b[len(b)-n:])
		}
		for c := range 256 {
			refused(t, "one with a byte more", append(bytes.Clone(b), byte(c)))
		}
		refused(t, "two", slices.Concat(b, b))
		for c := range 256 {
			read(t, "one with a byte ahead", slices.Concat([]byte{byte(c)}, b))
		}
	}
	long := with(one(), func(r *chain.Record) { r.Body = filled(16384) })
	b := told(long)
	for _, n := range []int{0, 1, 2, 34, 35, 36, 37, 38, 39, 100, 16384, len(b) - 65, len(b) - 64, len(b) - 63, len(b) - 1} {
		refused(t, "a long one's beginning", b[:n])
	}
}

func TestGetWithEachByteAnotherOne(t *testing.T) {
	takes, refuses := 0, 0
	for _, r := range []chain.Record{one(), plain(0, 1, api.Word{}, ""), plain(0, 2, api.Word{}, "x"), plain(7, most, api.Word{1}, "\x01\x02"), plain(3, 129, api.Word{}, string(filled(130)))} {
		b := told(r)
		for i := range b {
			for c := range 256 {
				x := bytes.Clone(b)
				x[i] = byte(c)
				if read(t, "one with another byte", x) {
					takes++
				} else {
					refuses++
				}
			}
		}
	}
	if takes < 1000 || refuses < 1000 {
		t.Errorf("the test is no test: %d are taken, %d are refused", takes, refuses)
	}
}

func TestGetWithAByteTakenOrPutIn(t *testing.T) {
	for _, r := range []chain.Record{one(), plain(0, 1, api.Word{}, ""), plain(7, most, api.Word{1}, "\x01\x02")} {
		b := told(r)
		for i := range b {
			read(t, "one with a byte taken", slices.Delete(bytes.Clone(b), i, i+1))
			for _, c := range []byte{0, 1, 0x80, b[i]} {
				read(t, "one with a byte put in", slices.Insert(bytes.Clone(b), i, c))
			}
		}
	}
}

// instead is a record's bytes with others in place of Dev (0), of Seq (1), of Prev (2), of how long Body is (3), of Body (4), of Sig (5).
func instead(r chain.Record, piece int, b []byte) []byte {
	all := [][]byte{
		binary.AppendUvarint(nil, uint64(r.Dev)),
		binary.AppendUvarint(nil, uint64(r.Seq)),
		r.Prev[:],
		binary.AppendUvarint(nil, uint64(len(r.Body))),
		r.Body,
		r.Sig[:],
	}
	all[piece] = b
	return slices.Concat(all...)
}

func TestGetOfNumbersThatAreNotWrittenSo(t *testing.T) {
	for _, r := range []chain.Record{one(), plain(0, 1, api.Word{}, ""), plain(7, most, api.Word{1}, allBytes())} {
		for piece, right := range [][]byte{binary.AppendUvarint(nil, uint64(r.Dev)), binary.AppendUvarint(nil, uint64(r.Seq)), 3: binary.AppendUvarint(nil, uint64(len(r.Body)))} {
			if right == nil {
				continue
			}
			got(t, "one as it is", instead(r, piece, right), r)
			for _, noughts := range []string{"\x00", "\x80\x00", "\x80\x80\x80\x00", "\x80\x80\x80\x80\x80\x80\x80\x80\x00"} {
				long := bytes.Clone(right)
				long[len(long)-1] |= 0x80
				refused(t, "a number with noughts behind it", instead(r, piece, append(long, noughts...)))
			}
			refused(t, "a number past all numbers", instead(r, piece, []byte("\xff\xff\xff\xff\xff\xff\xff\xff\xff\x01")))
			refused(t, "a number of eleven bytes", instead(r, piece, []byte("\x81\x80\x80\x80\x80\x80\x80\x80\x80\x80\x01")))
			refused(t, "a number that does not end", instead(r, piece, bytes.Repeat([]byte{0xff}, 20)))
		}
	}
}

func TestGetOfNumbersPastWhatMayBe(t *testing.T) {
	num := func(v int64) []byte { return binary.AppendUvarint(nil, uint64(v)) }
	for dev := range int64(300) {
		read(t, "another Dev", instead(one(), 0, num(dev)))
	}
	for _, dev := range []int64{8, 9, 255, 256, 1 << 32, 1<<32 + 5, most, math.MaxInt64} {
		refused(t, "a Dev past the last one", instead(one(), 0, num(dev)))
	}
	for _, seq := range []int64{0, most + 1, most + 2, most << 1, 1 << 62, math.MaxInt64} {
		refused(t, "a Seq that may not be", instead(one(), 1, num(seq)))
		refused(t, "a Seq that may not be, Prev zero", instead(plain(5, 2, api.Word{}, "x"), 1, num(seq)))
	}
	for _, seq := range []int64{2, 127, 128, most - 1, most} {
		got(t, "another Seq", instead(one(), 1, num(seq)), with(one(), func(r *chain.Record) { r.Seq = seq }))
	}
	for _, n := range []int64{3, 5, 64, 68, 69, 16384, 16385, 1 << 20, 1 << 31, 1 << 32, 1 << 62, math.MaxInt64} {
		refused(t, "a Body that is not as long as told", instead(one(), 3, num(n)))
	}
	for _, n := range []int{16383, 16384, 16385, 16386, 1 << 17} {
		if read(t, "a long Body", told(with(one(), func(r *chain.Record) { r.Body = filled(n) }))) != (n <= 16384) {
			t.Errorf("the test reckons a Body of %d bytes wrongly", n)
		}
	}
}

func TestGetOfAPrevOfTheFirstOne(t *testing.T) {
	first := plain(2, 1, api.Word{}, "x")
	got(t, "Seq 1, Prev zero", instead(first, 2, make([]byte, 32)), first)
	for i := range 32 {
		prev := api.Word{}
		prev[i] = 1 << (i % 8)
		refused(t, "Seq 1, a Prev", instead(first, 2, prev[:]))
		second := with(first, func(r *chain.Record) { r.Seq = 2 })
		got(t, "Seq 2, a Prev", instead(second, 2, prev[:]), with(second, func(r *chain.Record) { r.Prev = prev }))
	}
}

func TestGetOfAnyBytes(t *testing.T) {
	d := roll(1901)
	takes := 0
	for range 20000 {
		b := make([]byte, d.next(120))
		for i := range b {
			b[i] = byte(d.next(256))
			if d.next(3) > 0 {
				b[i] %= 4
			}
		}
		read(t, "any bytes", b)
		// Of the form of a record, with a length that is there or nearly so.
		n := d.next(5)
		b = make([]byte, 2+32+1+n+64)
		for i := range b {
			b[i] = byte(d.next(256))
		}
		b[0], b[1], b[34] = byte(d.next(9)), byte(d.next(4)), byte(n+d.next(3)/2)
		if read(t, "bytes of the form", b) {
			takes++
		}
	}
	if takes < 1000 || takes > 19000 {
		t.Errorf("the test is no test: %d are taken", takes)
	}
}

func TestGetOfManyBytes(t *testing.T) {
	refused(t, "many bytes", slices.Concat(told(one()), make([]byte, 1<<20)))
	refused(t, "many noughts", make([]byte, 1<<20))
	refused(t, "many high bytes", bytes.Repeat([]byte{0xff}, 1<<20))
}

// Unlike records have unlike bytes, and these unlike sums.
func TestSumsOfUnlikeRecords(t *testing.T) {
	sums := map[api.Word]string{}
	for _, r := range some() {
		key := string(told(r))
		if was, there := sums[chain.Sum(r)]; there && was != key {
			t.Errorf("P19.1: Sum of %v is that of another one", short(r))
		}
		sums[chain.Sum(r)] = key
	}
	for what, turn := range turns() {
		if x := with(one(), turn); chain.Sum(x) == chain.Sum(one()) {
			t.Errorf("P19.1: Sum with %s is the same", what)
		}
	}
}
