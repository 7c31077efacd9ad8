package head_test

import (
	"bytes"
	"encoding/binary"
	"encoding/hex"
	"math"
	"slices"
	"strings"
	"testing"

	"bandbox/api"
	"bandbox/head"
	"bandbox/vec"
	"bandbox/wire"
)

// put fails where Put writes something else, or Get does not tell the head of that.
func put(t *testing.T, h head.Head, want []byte) {
	t.Helper()
	if b := head.Put(h); !bytes.Equal(b, want) {
		t.Errorf("P20.1: Put of %v: %x, not %x", h, b, want)
	}
	got(t, "what Put writes", want, h)
}

// got fails where Get does not tell h.
func got(t *testing.T, what string, b []byte, h head.Head) {
	t.Helper()
	if x, e := head.Get(b); x != h || e != api.OK {
		t.Errorf("P20.1: Get of %s: %v, %d, not %v", what, x, e, h)
	}
}

// refused fails where Get takes b, or tells something beside the error.
func refused(t *testing.T, what string, b []byte) {
	t.Helper()
	h, e := head.Get(b)
	if e != api.EFORM {
		t.Errorf("P20.1: Get of %s, %x: %d", what, b[:min(len(b), 400)], e)
	}
	if h != (head.Head{}) {
		t.Errorf("R2: Get of %s: %d, and %v", what, e, h)
	}
}

// read fails where Get does not tell just what the bytes tell, read in another way; it answers whether they tell a head.
func read(t *testing.T, what string, b []byte) bool {
	t.Helper()
	h, ok := parsed(b)
	if !ok {
		refused(t, what, b)
		return false
	}
	got(t, what, b, h)
	if !bytes.Equal(head.Put(h), b) {
		t.Errorf("P20.1: Put of what Get tells of %s: %x, not %x", what, head.Put(h), b)
	}
	return true
}

func TestPutByteByByte(t *testing.T) {
	zero := strings.Repeat("00", 32)
	for _, x := range []struct {
		h    head.Head
		want string
	}{
		{head.Head{}, "000000000000000000" + strings.Repeat(zero, 8)},
		{head.Head{Dev: 7, Vec: vec.Vec{7: 1}}, "070000000000000001" + strings.Repeat(zero, 8)},
		{head.Head{Dev: 3, Vec: vec.Vec{2, 0, 300}, Tips: [8]api.Word{{0xab, 31: 0xcd}, {}, {15: 0x17}}}, "030200ac020000000000" + "ab" + zero[4:] + "cd" + zero + zero[:30] + "17" + zero[32:] + strings.Repeat(zero, 5)},
		{head.Head{Dev: 5, Vec: vec.Vec{1: most, 7: 128}, Tips: [8]api.Word{1: {1}, 7: {31: 9}}}, "0500808080808020000000000080" + "01" + zero + "01" + zero[2:] + strings.Repeat(zero, 5) + zero[2:] + "09"},
	} {
		for _, s := range []api.Sig{{}, {1, 63: 2}, one().Sig} {
			x.h.Sig = s
			want, err := hex.DecodeString(x.want + hex.EncodeToString(s[:]))
			if err != nil {
				t.Fatal(err)
			}
			put(t, x.h, want)
		}
	}
}

func TestPutByWireAlone(t *testing.T) {
	for _, h := range all() {
		b := wire.Num(nil, int64(h.Dev))
		for _, n := range h.Vec {
			b = wire.Num(b, n)
		}
		for _, tip := range h.Tips {
			b = wire.Word(b, tip)
		}
		if mayBe(h) {
			put(t, h, append(b, h.Sig[:]...))
			put(t, h, told(h))
		}
	}
}

func TestOfOneThatMayNotBe(t *testing.T) {
	for _, h := range all() {
		if mayBe(h) {
			continue
		}
		if b := head.Put(h); len(b) != 0 {
			t.Errorf("P20.1: Put of %v: %d bytes", h, len(b))
		}
		if h.Dev >= 0 && slices.Min(h.Vec[:]) >= 0 { // no bytes tell a number below 0
			refused(t, "a head that may not be", told(h))
		}
	}
}

func TestGetOfTooFewBytesAndOfTooMany(t *testing.T) {
	refused(t, "nil", nil)
	refused(t, "an empty list", []byte{})
	for _, h := range []head.Head{{}, one(), signed(1, plain(7, vec.Vec{most, most, most, most, most, most, most, most}))} {
		b := told(h)
		got(t, "one as it is", b, h)
		for n := range b {
			refused(t, "a beginning", b[:n])
			read(t, "an end", b[len(b)-n:])
		}
		for c := range 256 {
			refused(t, "one with a byte more", append(bytes.Clone(b), byte(c)))
			read(t, "one with a byte ahead", slices.Concat([]byte{byte(c)}, b))
		}
		refused(t, "two", slices.Concat(b, b))
	}
}

func TestGetWithEachByteAnotherOne(t *testing.T) {
	takes, refuses := 0, 0
	for _, h := range []head.Head{{}, one(), signed(1, plain(7, vec.Vec{1, 128, 1, most, 1, 1, 1, 1}))} {
		b := told(h)
		for i := range b {
			for c := range 256 {
				if i > 60 && c%5 > 0 {
					continue // within the Tips and Sig all is alike
				}
				x := bytes.Clone(b)
				x[i] = byte(c)
				if read(t, "one with another byte", x) {
					takes++
				} else {
					refuses++
				}
			}
		}
	}
	if takes < 1000 || refuses < 1000 {
		t.Errorf("the test is no test: %d are taken, %d are refused", takes, refuses)
	}
}

func TestGetWithEachBitTurned(t *testing.T) {
	b := told(one())
	for i := range 8 * len(b) {
		x := bytes.Clone(b)
		x[i/8] ^= 1 << (i % 8)
		read(t, "one with a bit turned", x)
	}
}

func TestGetWithAByteTakenOrPutIn(t *testing.T) {
	for _, h := range []head.Head{{}, one(), plain(7, vec.Vec{1, 128, 1, most, 1, 1, 1, 1})} {
		b := told(h)
		for i := range b {
			read(t, "one with a byte taken", slices.Delete(bytes.Clone(b), i, i+1))
			for _, c := range []byte{0, 1, 0x80, b[i]} {
				read(t, "one with a byte put in", slices.Insert(bytes.Clone(b), i, c))
			}
		}
	}
}

// num is a number written in the shortest way.
func num(v int64) []byte { return binary.AppendUvarint(nil, uint64(v)) }

// instead is a head's bytes with others in place of Dev (0), or of a number (1 to 8).
func instead(h head.Head, piece int, b []byte) []byte {
	pieces := [][]byte{num(int64(h.Dev))}
	for _, n := range h.Vec {
		pieces = append(pieces, num(n))
	}
	pieces[piece] = b
	for _, tip := range h.Tips {
		pieces = append(pieces, tip[:])
	}
	return slices.Concat(append(pieces, h.Sig[:])...)
}

func TestGetOfNumbersThatAreNotWrittenSo(t *testing.T) {
	for _, h := range []head.Head{{}, one(), plain(7, vec.Vec{1, 128, 1, most, 1, 1, 1, 1})} {
		for piece, v := range append([]int64{int64(h.Dev)}, h.Vec[:]...) {
			right := num(v)
			got(t, "one as it is", instead(h, piece, right), h)
			for _, noughts := range []string{"\x00", "\x80\x00", "\x80\x80\x80\x00", "\x80\x80\x80\x80\x80\x80\x80\x80\x00"} {
				long := bytes.Clone(right)
				long[len(long)-1] |= 0x80
				refused(t, "a number with noughts behind it", instead(h, piece, append(long, noughts...)))
			}
			refused(t, "a number past all numbers", instead(h, piece, []byte("\xff\xff\xff\xff\xff\xff\xff\xff\xff\x01")))
			refused(t, "a number of eleven bytes", instead(h, piece, []byte("\x81\x80\x80\x80\x80\x80\x80\x80\x80\x80\x01")))
			refused(t, "a number that does not end", instead(h, piece, bytes.Repeat([]byte{0xff}, 20)))
			refused(t, "no number", instead(h, piece, nil))
		}
	}
}

func TestGetOfNumbersPastWhatMayBe(t *testing.T) {
	h := plain(5, vec.Vec{1, 1, 1, 1, 1, 1, 1, 1})
	for dev := range int64(300) {
		if read(t, "another Dev", instead(h, 0, num(dev))) != (dev < 8) {
			t.Errorf("the test reckons a Dev of %d wrongly", dev)
		}
	}
	for _, dev := range []int64{8, 256, 1 << 32, 1<<32 + 5, most, math.MaxInt64} {
		refused(t, "a Dev past the last one", instead(h, 0, num(dev)))
	}
	for i := range 8 {
		for _, n := range []int64{1, 127, 128, 1 << 32, most - 1, most} {
			got(t, "another number", instead(h, i+1, num(n)), with(h, func(h *head.Head) { h.Vec[i] = n }))
		}
		for _, n := range []int64{most + 1, most + 2, most << 1, 1 << 62, math.MaxInt64} {
			refused(t, "a number past the greatest one", instead(h, i+1, num(n)))
		}
		refused(t, "0, where the Tip is not zero", instead(h, i+1, num(0)))
	}
}

func TestGetOfTips(t *testing.T) {
	for i := range 8 {
		for b := range 32 {
			h := head.Head{Dev: i}
			h.Tips[i][b] = 1 << (b % 8)
			refused(t, "0, and a Tip", told(h))
			h.Vec[i] = 1
			got(t, "1, and a Tip", told(h), h)
			h.Tips[i] = api.Word{}
			got(t, "1, and a Tip of zero", told(h), h)
		}
	}
}

func TestGetOfAnyBytes(t *testing.T) {
	d := roll(2001)
	takes := 0
	for range 20000 {
		b := make([]byte, d.next(400))
		for i := range b {
			b[i] = byte(d.next(256))
			if d.next(3) > 0 {
				b[i] %= 4
			}
		}
		read(t, "any bytes", b)
		// Of the form of a head, with numbers that may be or nearly so.
		b = make([]byte, 1+8+8*32+64)
		for i := range b {
			b[i] = byte(d.next(256))
		}
		b[0] = byte(d.next(9))
		for i := range 8 {
			b[1+i] = byte(min(d.next(30), 1) + d.next(130)*(d.next(20)/19))
		}
		if read(t, "bytes of the form", b) {
			takes++
		}
	}
	if takes < 1000 || takes > 19000 {
		t.Errorf("the test is no test: %d are taken", takes)
	}
}

func TestGetOfManyBytes(t *testing.T) {
	refused(t, "many bytes", slices.Concat(told(one()), make([]byte, 1<<20)))
	refused(t, "many noughts", make([]byte, 1<<20))
	refused(t, "many high bytes", bytes.Repeat([]byte{0xff}, 1<<20))
}

// Unlike heads have unlike bytes.
func TestBytesOfUnlikeHeads(t *testing.T) {
	h := signed(1, plain(4, vec.Vec{1, 2, 3, 4, 5, 6, 7, 8}))
	was := map[string]string{string(head.Put(h)): "none"}
	for what, turn := range turns() {
		x := with(h, turn)
		if !mayBe(x) {
			continue
		}
		b := string(head.Put(x))
		if other, there := was[b]; there {
			t.Errorf("P20.1: Put with %s turned is that with %s turned", what, other)
		}
		was[b] = what
	}
}
