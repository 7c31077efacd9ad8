package sha_test

import (
	"bytes"
	"crypto/sha256"
	"crypto/sha512"
	"encoding/hex"
	"strings"
	"testing"

	"bandbox/api"
	"bandbox/sha"
)

// edges are the lengths on both sides of where FIPS 180-4 begins a new block, for either sum.
func edges() []int {
	return []int{0, 1, 54, 55, 56, 57, 63, 64, 65, 110, 111, 112, 113, 119, 120, 127, 128, 129, 183, 184, 191, 192, 193, 239, 240, 255, 256, 257}
}

// mixed is n bytes of which no two blocks are alike.
func mixed(n int) []byte {
	b := make([]byte, n)
	for i := range b {
		b[i] = byte(i*7 + i>>5*31)
	}
	return b
}

func hex256(w api.Word) string { return hex.EncodeToString(w[:]) }
func hex512(w [64]byte) string { return hex.EncodeToString(w[:]) }

func TestTheChaptersExample(t *testing.T) {
	const want = "ba7816bf8f01cfea414140de5dae2223b00361a396177a9cb410ff61f20015ad"
	if got := hex256(sha.Of([]byte("abc"))); got != want {
		t.Errorf("P2.1: Of(abc) = %s", got)
	}
}

func TestKnownSums(t *testing.T) {
	cases := []struct{ text, short, long string }{
		{"", "e3b0c44298fc1c149afbf4c8996fb92427ae41e4649b934ca495991b7852b855", "cf83e1357eefb8bdf1542850d66d8007d620e4050b5715dc83f4a921d36ce9ce47d0d13c5d85f2b0ff8318d2877eec2f63b931bd47417a81a538327af927da3e"},
		{"abc", "ba7816bf8f01cfea414140de5dae2223b00361a396177a9cb410ff61f20015ad", "ddaf35a193617abacc417349ae20413112e6fa4e89a97ea20a9eeee64b55d39a2192992a274fc1a836ba3c23a3feebbd454d4423643ce80e2a9ac94fa54ca49f"},
		{"abcdefghbcdefghicdefghijdefghijkefghijklfghijklmghijklmnhijklmnoijklmnopjklmnopqklmnopqrlmnopqrsmnopqrstnopqrstu", "cf5b16a778af8380036ce59e7b0492370b249b11e8f07a51afac45037afee9d1", "8e959b75dae313da8cf4f72814fc143f8f7779c6eb9f7fa17299aeadb6889018501d289e4900f7e4331b99dec4b5433ac7d329eeb6dd26545e96e55b874be909"},
		{strings.Repeat("a", 1000000), "cdc76e5c9914fb9281a1c7e284d73e67f1809a48a497200e046d39ccc7112cd0", "e718483d0ce769644e2e42c7bc15b4638e1f98b13b2044285632a803afa973ebde0ff244877ea60a4cb0432ce577c31beb009c5c2c49aa2e4eadb217ad8cc09b"},
	}
	for _, c := range cases {
		b := []byte(c.text)
		if got := hex256(sha.Of(b)); got != c.short {
			t.Errorf("P2.1: Of of %d bytes = %s", len(b), got)
		}
		if got := hex512(sha.Long(b)); got != c.long {
			t.Errorf("P2.1: Long of %d bytes = %s", len(b), got)
		}
	}
}

func TestSumsOfEveryLengthAboutTheBlocks(t *testing.T) {
	lengths := edges()
	for n := range 400 {
		lengths = append(lengths, n)
	}
	for _, n := range append(lengths, 4095, 4096, 4097, 65535, 65536, 100003) {
		for name, b := range map[string][]byte{"mixed": mixed(n), "noughts": make([]byte, n), "all bits": bytes.Repeat([]byte{255}, n)} {
			if got := sha.Of(b); got != sha256.Sum256(b) {
				t.Errorf("P2.1: Of of %d bytes, %s: %x", n, name, got)
			}
			if got := sha.Long(b); got != sha512.Sum512(b) {
				t.Errorf("P2.1: Long of %d bytes, %s: %x", n, name, got)
			}
		}
	}
}

func TestNoPartsAndEmptyOnes(t *testing.T) {
	short, long := sha256.Sum256(nil), sha512.Sum512(nil)
	for i, parts := range [][][]byte{nil, {}, {nil}, {{}}, {nil, {}, nil}} {
		if got := sha.Of(parts...); got != short {
			t.Errorf("P2.1: Of of nothing, number %d: %x", i, got)
		}
		if got := sha.Long(parts...); got != long {
			t.Errorf("P2.1: Long of nothing, number %d: %x", i, got)
		}
	}
	short, long = sha256.Sum256([]byte("abc")), sha512.Sum512([]byte("abc"))
	parts := [][]byte{nil, []byte("a"), {}, nil, []byte("bc"), {}}
	if got := sha.Of(parts...); got != short {
		t.Errorf("P2.1: Of with empty parts: %x", got)
	}
	if got := sha.Long(parts...); got != long {
		t.Errorf("P2.1: Long with empty parts: %x", got)
	}
}

// pieces cuts b into parts of n bytes each, the last one as it comes.
func pieces(b []byte, n int) [][]byte {
	var out [][]byte
	for len(b) > n {
		out, b = append(out, b[:n]), b[n:]
	}
	return append(out, b)
}

func TestPartsStandBehindOneAnother(t *testing.T) {
	for _, n := range edges() {
		b := mixed(n)
		short, long := sha256.Sum256(b), sha512.Sum512(b)
		for cut := range n + 1 {
			if sha.Of(b[:cut], b[cut:]) != short || sha.Of(b[:cut], nil, b[cut:], []byte{}) != short {
				t.Errorf("P2.1: Of of %d bytes, cut at %d", n, cut)
			}
			if sha.Long(b[:cut], b[cut:]) != long || sha.Long(b[:cut], nil, b[cut:], []byte{}) != long {
				t.Errorf("P2.1: Long of %d bytes, cut at %d", n, cut)
			}
		}
		for _, size := range []int{1, 2, 7, 55, 63, 64, 65, 111, 127, 128, 129} {
			if sha.Of(pieces(b, size)...) != short {
				t.Errorf("P2.1: Of of %d bytes in pieces of %d", n, size)
			}
			if sha.Long(pieces(b, size)...) != long {
				t.Errorf("P2.1: Long of %d bytes in pieces of %d", n, size)
			}
		}
	}
}

func TestTheOrderOfPartsCounts(t *testing.T) {
	a, b := []byte("a"), []byte("b")
	if sha.Of(b, a) != sha256.Sum256([]byte("ba")) || sha.Long(b, a) != sha512.Sum512([]byte("ba")) {
		t.Error("P2.1: b, and a behind it")
	}
}

// told fails where s is not just the sum of b; it asks twice, for asking changes nothing.
func told(t *testing.T, s *sha.Sum, b []byte) {
	t.Helper()
	want := api.Word(sha256.Sum256(b))
	for range 2 {
		if got := s.Word(); got != want {
			t.Errorf("P2.1: Word behind %d bytes: %x", len(b), got)
		}
		if got := s.Len(); got != int64(len(b)) {
			t.Errorf("P2.1: Len behind %d bytes: %d", len(b), got)
		}
	}
}

func TestANewSumIsOfNothing(t *testing.T) {
	s := sha.New()
	told(t, s, nil)
	s.Add(nil)
	s.Add([]byte{})
	told(t, s, nil)
}

func TestBytesAddedOneByOne(t *testing.T) {
	b := mixed(300)
	asked, silent := sha.New(), sha.New()
	for i := range b {
		asked.Add(b[i : i+1])
		told(t, asked, b[:i+1])
		silent.Add(b[i : i+1])
	}
	told(t, silent, b)
}

func TestBytesAddedInPieces(t *testing.T) {
	b := mixed(1000)
	for _, size := range []int{2, 7, 55, 56, 63, 64, 65, 127, 128, 129, 500, 1000} {
		asked, silent := sha.New(), sha.New()
		at := 0
		for _, part := range pieces(b, size) {
			asked.Add(part)
			asked.Add(nil)
			at += len(part)
			told(t, asked, b[:at])
			silent.Add(part)
		}
		told(t, silent, b)
	}
}

func TestWordInTheMidstChangesNothing(t *testing.T) {
	for _, n := range edges() {
		for _, more := range edges() {
			b := mixed(n + more)
			s := sha.New()
			s.Add(b[:n])
			told(t, s, b[:n])
			s.Add(b[n:])
			told(t, s, b)
		}
	}
}

func TestSumsKnowNothingOfOneAnother(t *testing.T) {
	first, second := sha.New(), sha.New()
	b := mixed(200)
	for i := range b {
		first.Add(b[i : i+1])
		second.Add(b[len(b)-1-i : len(b)-i])
		sha.Of(b[:i])
	}
	told(t, first, b)
	turned := make([]byte, 0, len(b))
	for i := range b {
		turned = append(turned, b[len(b)-1-i])
	}
	told(t, second, turned)
}

func TestLenOfMuch(t *testing.T) {
	s := sha.New()
	part := make([]byte, 1<<20)
	for range 5 {
		s.Add(part)
	}
	s.Add(part[:3])
	told(t, s, make([]byte, 5<<20+3))
}

// Behind 2^29 bytes the count of bits has more than 32 of them.
func TestMoreBitsThanAWordCounts(t *testing.T) {
	if testing.Short() {
		t.Skip("half a gigabyte is summed")
	}
	parts := make([][]byte, 1<<9)
	short, long := sha256.New(), sha512.New()
	piece := mixed(1 << 20)
	for i := range parts {
		parts[i] = piece
		short.Write(piece)
		long.Write(piece)
	}
	t.Run("Of", func(t *testing.T) {
		t.Parallel()
		if got := sha.Of(parts...); !bytes.Equal(got[:], short.Sum(nil)) {
			t.Errorf("P2.1: Of of 2^29 bytes: %x", got)
		}
	})
	t.Run("Long", func(t *testing.T) {
		t.Parallel()
		if got := sha.Long(parts...); !bytes.Equal(got[:], long.Sum(nil)) {
			t.Errorf("P2.1: Long of 2^29 bytes: %x", got)
		}
	})
}

// row is bytes with spare room behind them; all of it can be looked at.
func row(n int) (all, b []byte) {
	all = mixed(n + 200)
	return all, all[:n]
}

func scribble(b []byte) {
	for i := range b {
		b[i] = 0xee
	}
}

func TestListsHandedInAreNotChanged(t *testing.T) {
	for _, n := range edges() {
		all, b := row(n)
		before := bytes.Clone(all)
		parts := [][]byte{b, nil, b}
		s := sha.New()
		sha.Of(parts...)
		sha.Long(parts...)
		s.Add(b)
		s.Word()
		s.Add(b)
		s.Word()
		if !bytes.Equal(all, before) {
			t.Errorf("R4: %d bytes that were handed in were changed", n)
		}
		if len(parts) != 3 || !bytes.Equal(parts[0], before[:n]) || parts[1] != nil || !bytes.Equal(parts[2], before[:n]) {
			t.Errorf("R4: the list of parts of %d bytes was changed", n)
		}
	}
}

func TestTheListOfPartsKeepsItsSpareRoom(t *testing.T) {
	spare := [][]byte{[]byte("a"), []byte("b"), []byte("c"), []byte("d")}
	sha.Of(spare[:2]...)
	sha.Long(spare[:2]...)
	for i, want := range []string{"a", "b", "c", "d"} {
		if string(spare[i]) != want {
			t.Errorf("R4: part %d is %q now", i, spare[i])
		}
	}
}

func TestWhatWasAddedIsNotKept(t *testing.T) {
	for _, n := range edges() {
		all, b := row(n)
		was := bytes.Clone(b)
		s := sha.New()
		s.Add(b)
		scribble(all)
		told(t, s, was)
		tail := []byte("tail")
		s.Add(tail)
		scribble(tail)
		told(t, s, append(was, "tail"...))
	}
}

func TestAnswersAreTheirOwn(t *testing.T) {
	s := sha.New()
	s.Add([]byte("abc"))
	first, short, long := s.Word(), sha.Of([]byte("abc")), sha.Long([]byte("abc"))
	scribble(first[:])
	scribble(short[:])
	scribble(long[:])
	told(t, s, []byte("abc"))
	if sha.Of([]byte("abc")) != sha256.Sum256([]byte("abc")) || sha.Long([]byte("abc")) != sha512.Sum512([]byte("abc")) {
		t.Error("R4, R5: an answer hangs on what was done with an earlier one")
	}
}

func BenchmarkOf(b *testing.B) {
	part := mixed(1 << 16)
	b.SetBytes(int64(len(part)))
	for b.Loop() {
		sha.Of(part)
	}
}

func BenchmarkLong(b *testing.B) {
	part := mixed(1 << 16)
	b.SetBytes(int64(len(part)))
	for b.Loop() {
		sha.Long(part)
	}
}
