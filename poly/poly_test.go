package poly_test

import (
	"bytes"
	"encoding/hex"
	"math/big"
	"strings"
	"testing"

	"bandbox/api"
	"bandbox/poly"
)

const (
	noughts    = "00000000000000000000000000000000"
	full       = "ffffffffffffffffffffffffffffffff"
	unlikeKey  = "85d6be7857556d337f4452fe42d506a80103808afb0db2fd4abff6af4149f51b" // RFC 8439's own
	clampedAll = "ffffff0ffcffff0ffcffff0ffcffff0f"
)

func unhex(t *testing.T, s string) []byte {
	t.Helper()
	b, err := hex.DecodeString(s)
	if err != nil {
		t.Fatal(err)
	}
	return b
}

func keyOf(t *testing.T, s string) api.Word {
	t.Helper()
	return api.Word(unhex(t, s))
}

func unlike(t *testing.T) api.Word {
	t.Helper()
	return keyOf(t, unlikeKey)
}

// keys have noughts and 255s alone in either half, small numbers, and bytes of all kinds.
func keys(t *testing.T) []api.Word {
	t.Helper()
	mixed := mixed(32)
	var out []api.Word
	for _, first := range []string{noughts, full, "01" + noughts[2:], "02" + noughts[2:], "04" + noughts[2:], "05" + noughts[2:], clampedAll, unlikeKey[:32], hex.EncodeToString(mixed[:16])} {
		for _, second := range []string{noughts, full, unlikeKey[32:], noughts[2:] + "80", "fe" + full[2:]} {
			out = append(out, keyOf(t, first+second))
		}
	}
	return out
}

// mixed is n bytes of which no two blocks are alike.
func mixed(n int) []byte {
	b := make([]byte, n)
	for i := range b {
		b[i] = byte(i*7 + i>>4*31 + i>>11*3 + 1)
	}
	return b
}

// lengths are those on both sides of where a new block begins, and some far ahead.
func lengths() []int {
	all := []int{255, 256, 257, 1023, 1024, 1025, 4096, 16384, 65535, 65536, 65537}
	for n := range 100 {
		all = append(all, n)
	}
	return all
}

func prime() *big.Int {
	p := new(big.Int).Lsh(big.NewInt(1), 130)
	return p.Sub(p, big.NewInt(5))
}

// whole reads bytes, the lowest first.
func whole(b []byte) *big.Int {
	turned := make([]byte, 0, len(b))
	for i := range b {
		turned = append(turned, b[len(b)-1-i])
	}
	return new(big.Int).SetBytes(turned)
}

// low tells the lowest 128 bits of v, the lowest first.
func low(v *big.Int) [16]byte {
	v = new(big.Int).Mod(v, new(big.Int).Lsh(big.NewInt(1), 128))
	var out [16]byte
	v.FillBytes(out[:])
	for i := range 8 {
		out[i], out[15-i] = out[15-i], out[i]
	}
	return out
}

// wantedFactor is r with each of its bytes as the chapter names it.
func wantedFactor(key api.Word) *big.Int {
	r := bytes.Clone(key[:16])
	for _, i := range []int{3, 7, 11, 15} {
		r[i] %= 16
	}
	for _, i := range []int{4, 8, 12} {
		r[i] -= r[i] % 4
	}
	return whole(r)
}

// wantedSum is RFC 8439's sum of b, ahead of the key's second half.
func wantedSum(key api.Word, b []byte) *big.Int {
	r, sum := wantedFactor(key), new(big.Int)
	for len(b) > 0 {
		n := min(16, len(b))
		sum.Add(sum, whole(append(bytes.Clone(b[:n]), 1)))
		sum.Mul(sum, r).Mod(sum, prime())
		b = b[n:]
	}
	return sum
}

func wantedTag(key api.Word, b []byte) [16]byte {
	sum := wantedSum(key, b)
	return low(sum.Add(sum, whole(key[16:])))
}

// tagged fails where Tag of b is not just what it should be.
func tagged(t *testing.T, key api.Word, b []byte) {
	t.Helper()
	if got := poly.Tag(key, b); got != wantedTag(key, b) {
		t.Errorf("P5.1: Tag of %d bytes (%.40x), key %x: %x", len(b), b, key, got)
	}
}

func TestTheChaptersExample(t *testing.T) {
	for _, n := range lengths() {
		for i, b := range [][]byte{mixed(n), make([]byte, n), bytes.Repeat([]byte{255}, n)} {
			if got := poly.Tag(api.Word{}, b); got != [16]byte{} {
				t.Errorf("P5.1: Tag of 32 noughts and %d bytes, number %d: %x", n, i, got)
			}
		}
	}
	if got := poly.Tag(api.Word{}, []byte("what"), nil, []byte("ever")); got != [16]byte{} {
		t.Errorf("P5.1: Tag of 32 noughts and two parts: %x", got)
	}
}

const (
	toves  = "'Twas brillig, and the slithy toves\nDid gyre and gimble in the wabe:\nAll mimsy were the borogoves,\nAnd the mome raths outgrabe."
	letter = "Any submission to the IETF intended by the Contributor for publication as all or part of an IETF Internet-Draft or RFC and any statement made within the context of an IETF activity is considered an \"IETF Contribution\". Such statements include oral statements in IETF sessions, as well as written and electronic communications made at any time or place, which are addressed to"
)

type known struct{ key, text, want string }

func checkTags(t *testing.T, cases []known) {
	t.Helper()
	for i, c := range cases {
		got := poly.Tag(keyOf(t, c.key), []byte(c.text))
		if hex.EncodeToString(got[:]) != c.want {
			t.Errorf("P5.1: Tag, number %d: %x", i, got)
		}
	}
}

// RFC 8439 has these in 2.5.2 and in A.3, 1 to 4.
func TestKnownTags(t *testing.T) {
	const half = "36e5f6b5c5e06070f0efca96227a863e"
	checkTags(t, []known{
		{unlikeKey, "Cryptographic Forum Research Group", "a8061dc1305136c6c22b8baf0c0127a9"},
		{noughts + noughts, strings.Repeat("\x00", 64), noughts},
		{noughts + half, letter, half},
		{half + noughts, letter, "f3477e7cd95417af89a6b8794c310cf0"},
		{"1c9240a5eb55d38af333888604f6b5f0473917c1402b80099dca5cbc207075c0", toves, "4541669a7eaaee61e708dc7cbcc5eb62"},
	})
}

// RFC 8439 has these in A.3, 5 to 11: where a sum comes to the prime and past it, and past 2^128.
func TestKnownTagsAboutThePrime(t *testing.T) {
	const (
		one   = "01" + "000000000000000000000000000000"
		two   = "02" + "000000000000000000000000000000"
		third = "0100000000000000" + "0400000000000000"
		first = "e33594d7505e43b90000000000000000" + "3394d7505e4379cd0100000000000000" + noughts
	)
	for i, c := range []known{
		{two + noughts, full, "03" + noughts[2:]},
		{two + full, two, "03" + noughts[2:]},
		{one + noughts, full + "f0" + full[2:] + "11" + noughts[2:], "05" + noughts[2:]},
		{one + noughts, full + "fb" + strings.Repeat("fe", 15) + strings.Repeat("01", 16), noughts},
		{two + noughts, "fd" + full[2:], "fa" + full[2:]},
		{third + noughts, first + one, "14000000000000005500000000000000"},
		{third + noughts, first, "13" + noughts[2:]},
	} {
		b := unhex(t, c.text)
		got := poly.Tag(keyOf(t, c.key), b)
		if hex.EncodeToString(got[:]) != c.want {
			t.Errorf("P5.1: Tag, number %d: %x", i, got)
		}
		tagged(t, keyOf(t, c.key), b)
	}
}

func TestNoPartsNilPartsAndEmptyOnes(t *testing.T) {
	for _, key := range keys(t) {
		for i, parts := range [][][]byte{nil, {}, {nil}, {{}}, {mixed(5)[:0]}, {nil, {}, nil}} {
			if got := poly.Tag(key, parts...); !bytes.Equal(got[:], key[16:]) {
				t.Errorf("P5.1: Tag of nothing, number %d, key %x: %x", i, key, got)
			}
		}
		if got := poly.Tag(key); !bytes.Equal(got[:], key[16:]) {
			t.Errorf("P5.1: Tag of no parts, key %x: %x", key, got)
		}
		for _, n := range []int{1, 15, 16, 17, 32} {
			b := mixed(n)
			if poly.Tag(key, nil, b, []byte{}, nil) != wantedTag(key, b) {
				t.Errorf("P5.1, R4: Tag of %d bytes among empty parts", n)
			}
		}
	}
}

func TestTagsOfEveryLength(t *testing.T) {
	for _, n := range lengths() {
		for _, key := range keys(t) {
			for _, b := range [][]byte{mixed(n), make([]byte, n), bytes.Repeat([]byte{255}, n)} {
				tagged(t, key, b)
			}
			if n > 2000 {
				break // one key is enough for those that take long
			}
		}
		tagged(t, unlike(t), mixed(n))
	}
}

// Noughts behind a text, and the bit that stands behind its last byte, count.
func TestTextsThatDifferInLengthAloneHaveUnlikeTags(t *testing.T) {
	key, seen := unlike(t), map[[16]byte]int{}
	for n := range 65 {
		seen[poly.Tag(key, make([]byte, n))]++
		seen[poly.Tag(key, append(mixed(20), make([]byte, n)...))]++
	}
	for n := range 16 {
		seen[poly.Tag(key, append(make([]byte, n), 1))]++
	}
	if len(seen) != 65+65+16 {
		t.Errorf("P5.1: of 146 tags %d are unlike", len(seen))
	}
}

func TestMuch(t *testing.T) {
	n := 1<<20 + 5
	tagged(t, unlike(t), mixed(n))
	tagged(t, keyOf(t, full+full), bytes.Repeat([]byte{255}, n))
}

// pieces cuts b into parts of n bytes each, the last one as it comes.
func pieces(b []byte, n int) [][]byte {
	var out [][]byte
	for len(b) > n {
		out, b = append(out, b[:n]), b[n:]
	}
	return append(out, b)
}

func TestPartsStandBehindOneAnother(t *testing.T) {
	for _, key := range []api.Word{unlike(t), keyOf(t, full+full)} {
		for _, n := range []int{1, 2, 15, 16, 17, 31, 32, 33, 47, 48, 49, 100} {
			b := mixed(n)
			want := wantedTag(key, b)
			for cut := range n + 1 {
				if poly.Tag(key, b[:cut], b[cut:]) != want || poly.Tag(key, nil, b[:cut], []byte{}, b[cut:], nil) != want {
					t.Errorf("P5.1: Tag of %d bytes, cut at %d", n, cut)
				}
				for again := cut; again <= n; again++ {
					if poly.Tag(key, b[:cut], b[cut:again], b[again:]) != want {
						t.Errorf("P5.1: Tag of %d bytes, cut at %d and %d", n, cut, again)
					}
				}
			}
			for _, size := range []int{1, 2, 7, 15, 16, 17, 31, 32, 33} {
				if poly.Tag(key, pieces(b, size)...) != want {
					t.Errorf("P5.1: Tag of %d bytes in pieces of %d", n, size)
				}
			}
		}
	}
}

func TestTheOrderOfPartsCounts(t *testing.T) {
	key, a, b := unlike(t), mixed(20), []byte("b")
	if poly.Tag(key, b, a) != wantedTag(key, append(bytes.Clone(b), a...)) || poly.Tag(key, a, b) == poly.Tag(key, b, a) {
		t.Error("P5.1: b, and a behind it")
	}
}

// lastBlock is the block behind b that brings the sum to want (modulo the prime), if there is one.
func lastBlock(key api.Word, b []byte, want *big.Int) ([16]byte, bool) {
	p := prime()
	block := new(big.Int).ModInverse(wantedFactor(key), p)
	block.Mul(block, want).Sub(block, wantedSum(key, b)).Mod(block, p)
	return low(block), block.BitLen() == 129 // the bit on top is a whole block's own
}

// sumsTo checks the tag of a text whose sum is want.
func sumsTo(t *testing.T, key api.Word, want *big.Int) {
	t.Helper()
	for blocks := range 100 {
		b := mixed(16 * blocks)
		last, ok := lastBlock(key, b, want)
		if !ok {
			continue
		}
		b = append(b, last[:]...)
		if wantedSum(key, b).Cmp(new(big.Int).Mod(want, prime())) != 0 {
			t.Fatalf("the test's own sum: key %x, %x", key, b)
		}
		tagged(t, key, b)
		return
	}
	t.Errorf("no text was found whose sum is %d, key %x", want, key)
}

// The sum is brought to the numbers about 0 (where the prime itself may be left), 2^128 and 2^130; the second half carries it past 2^128.
func TestSumsAboutThePrimeAndPastIt(t *testing.T) {
	for _, first := range []string{full, unlikeKey[:32], "01" + noughts[2:], "03" + noughts[2:], "07000000fc" + noughts[10:]} {
		for _, second := range []string{noughts, full, "01" + noughts[2:], "fb" + full[2:], "05" + noughts[2:]} {
			key := keyOf(t, first+second)
			for _, bit := range []uint{0, 26, 52, 64, 78, 104, 128, 129, 130} {
				for away := int64(-7); away <= 7; away++ {
					want := new(big.Int).Lsh(big.NewInt(1), bit)
					sumsTo(t, key, want.Add(want, big.NewInt(away)))
				}
			}
		}
	}
}

// With a factor of 1 the sum is that of the blocks: no product hides a step that goes wrong.
func TestPlainSums(t *testing.T) {
	one := keyOf(t, "01"+noughts[2:]+noughts)
	for _, ahead := range []int{1, 2, 3, 4, 5, 6, 11} {
		for away := range 16 {
			b := bytes.Repeat([]byte{255}, 16*ahead)
			tagged(t, one, append(bytes.Clone(b), byte(away)))
			b[0] -= byte(away)
			tagged(t, one, b)
			tagged(t, one, append(b, make([]byte, away)...))
		}
	}
}

func TestTagHangsOnEachBitOfTheText(t *testing.T) {
	for _, n := range []int{1, 15, 16, 17, 32, 40} {
		seen := map[[16]byte]int{}
		seen[poly.Tag(unlike(t), mixed(n))]++
		for i := range 8 * n {
			b := mixed(n)
			b[i/8] ^= 1 << (i % 8)
			tagged(t, unlike(t), b)
			seen[poly.Tag(unlike(t), b)]++
		}
		if len(seen) != 8*n+1 {
			t.Errorf("P5.1: of %d tags %d are unlike", 8*n+1, len(seen))
		}
	}
}

// leftOut tells whether Clamp leaves the bit i of r out.
func leftOut(i int) bool {
	switch i / 8 {
	case 3, 7, 11, 15:
		return i%8 >= 4
	case 4, 8, 12:
		return i%8 < 2
	}
	return false
}

func TestTagHangsOnEachBitOfTheKeyThatIsUsed(t *testing.T) {
	b := mixed(40)
	for i := range 256 {
		key := unlike(t)
		key[i/8] ^= 1 << (i % 8)
		tagged(t, key, b)
		alike := poly.Tag(key, b) == poly.Tag(unlike(t), b)
		if alike != (i < 128 && leftOut(i)) {
			t.Errorf("P5.1: Tag with the key's bit %d turned is alike: %t", i, alike)
		}
	}
}

func TestTagTakesTheKeyClamped(t *testing.T) {
	for _, key := range keys(t) {
		r := poly.Clamp([16]byte(key[:16]))
		clamped := api.Word(append(bytes.Clone(r[:]), key[16:]...))
		for _, n := range []int{1, 16, 17, 100} {
			if poly.Tag(key, mixed(n)) != poly.Tag(clamped, mixed(n)) {
				t.Errorf("P5.1: Tag of %d bytes, key %x, is not that of the clamped one", n, key)
			}
		}
	}
}

func clamps(t *testing.T, r [16]byte, want string) {
	t.Helper()
	before := r
	got := poly.Clamp(r)
	if hex.EncodeToString(got[:]) != want {
		t.Errorf("P5.1: Clamp(%x) = %x", r, got)
	}
	if again := poly.Clamp(got); again != got {
		t.Errorf("P5.1: Clamp twice of %x: %x", r, again)
	}
	if r != before {
		t.Errorf("R4: Clamp changed %x to %x", before, r)
	}
}

func TestClamp(t *testing.T) {
	clamps(t, [16]byte{}, noughts)
	clamps(t, [16]byte(unhex(t, full)), clampedAll)
	clamps(t, [16]byte(unhex(t, clampedAll)), clampedAll)
	clamps(t, [16]byte(unhex(t, "000000f0030000f0030000f0030000f0")), noughts)
	clamps(t, [16]byte(unhex(t, unlikeKey[:32])), "85d6be0854556d037c44520e40d50608") // RFC 8439, 2.5.2
}

func TestClampOfEachBit(t *testing.T) {
	all := unhex(t, full)
	for i := range 128 {
		var r [16]byte
		r[i/8] = 1 << (i % 8)
		if leftOut(i) {
			clamps(t, r, noughts)
		} else {
			clamps(t, r, hex.EncodeToString(r[:]))
		}
		without := [16]byte(all)
		without[i/8] ^= r[i/8]
		want := unhex(t, clampedAll)
		want[i/8] &^= r[i/8]
		clamps(t, without, hex.EncodeToString(want))
	}
}

func TestClampOfEachByte(t *testing.T) {
	for at := range 16 {
		for v := range 256 {
			var r, want [16]byte
			r[at] = byte(v)
			for i := range 8 {
				if !leftOut(8*at + i) {
					want[at] |= byte(v) & (1 << i)
				}
			}
			clamps(t, r, hex.EncodeToString(want[:]))
		}
	}
}

func scribble(b []byte) {
	for i := range b {
		b[i] = 0xee
	}
}

func TestPartsHandedInAreNotChanged(t *testing.T) {
	for _, n := range []int{0, 1, 15, 16, 17, 31, 32, 33, 100, 1000} {
		all := mixed(n + 100)
		b, before := all[:n], bytes.Clone(all)
		list := [][]byte{b, nil, b, []byte("spare"), []byte("room")}
		got := poly.Tag(unlike(t), list[:3]...)
		if !bytes.Equal(all, before) {
			t.Errorf("R4: %d bytes that were handed in were changed", n)
		}
		if !bytes.Equal(list[0], b) || list[1] != nil || !bytes.Equal(list[2], b) || string(list[3]) != "spare" || string(list[4]) != "room" {
			t.Errorf("R4: the list of parts of %d bytes was changed", n)
		}
		if got != wantedTag(unlike(t), append(bytes.Clone(b), b...)) {
			t.Errorf("P5.1: Tag of a part of %d bytes, twice", n)
		}
		scribble(all)
		if poly.Tag(unlike(t), before[:n]) != wantedTag(unlike(t), before[:n]) {
			t.Errorf("R4: a part of %d bytes was kept", n)
		}
	}
}

func TestAnswersHangOnArgumentsAlone(t *testing.T) {
	key, b := unlike(t), mixed(50)
	first, r := poly.Tag(key, b), poly.Clamp([16]byte(key[:16]))
	kept, keptR := first, r
	scribble(first[:])
	scribble(r[:])
	for _, other := range keys(t) {
		poly.Tag(other, mixed(33), mixed(7))
		poly.Clamp([16]byte(other[:16]))
	}
	if poly.Tag(key, b) != kept || poly.Clamp([16]byte(key[:16])) != keptR {
		t.Error("R5: an answer hangs on what was called ahead of it")
	}
	roomy := append(make([]byte, 0, 500), b...)
	if poly.Tag(key, roomy) != kept {
		t.Error("R5: an answer hangs on spare room")
	}
	if key != unlike(t) {
		t.Error("R4: a key was changed")
	}
}

func BenchmarkTag(b *testing.B) {
	part := mixed(1 << 16)
	b.SetBytes(int64(len(part)))
	for b.Loop() {
		poly.Tag(api.Word{1, 2, 3}, part)
	}
}
