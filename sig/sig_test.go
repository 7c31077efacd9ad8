package sig_test

import (
	"bytes"
	"crypto/ed25519"
	"slices"
	"sync"
	"testing"

	"bandbox/api"
	"bandbox/sig"
)

func TestTheChaptersExample(t *testing.T) {
	seed := mixedWord(1)
	public := sig.Public(seed)
	for i, parts := range [][][]byte{nil, {}, {nil}, {{}}, {[]byte("abc")}, {[]byte("a"), []byte("bc"), mixed(200)}, {nil, []byte("a"), {}, nil, []byte("b"), {}}} {
		if !sig.Verify(public, sig.Sign(seed, parts...), parts...) {
			t.Errorf("P10.1: Verify of Sign, number %d: false", i)
		}
	}
}

func TestAnySeed(t *testing.T) {
	t.Parallel()
	seeds := []api.Word{{}, full()}
	for i := range 32 {
		seeds = append(seeds, mixedWord(i))
	}
	for i := range 256 {
		one, turned := api.Word{}, mixedWord(2)
		one[i/8] |= 1 << (i % 8)
		turned[i/8] ^= 1 << (i % 8)
		seeds = append(seeds, one, turned)
	}
	// Two seeds with one key would sign for one another.
	owners := map[api.Word]api.Word{}
	for i, seed := range seeds {
		public, _ := signed(t, seed, mixed(i))
		if owner, ok := owners[public]; ok && owner != seed {
			t.Errorf("P10.1: Public of %x and of %x: %x", owner, seed, public)
		}
		owners[public] = seed
	}
}

func TestAnyText(t *testing.T) {
	t.Parallel()
	seed := mixedWord(3)
	for n := range 260 {
		signed(t, seed, mixed(n))
	}
	for _, n := range lengths() {
		signed(t, seed, make([]byte, n))
		signed(t, seed, bytes.Repeat([]byte{255}, n))
	}
	for _, n := range []int{1023, 1024, 4095, 4096, 4097, api.MaxPlain, api.MaxPlain + 1, 100003, 1 << 20} {
		signed(t, seed, mixed(n))
	}
	for c := range 256 {
		signed(t, seed, []byte{byte(c)})
	}
}

func TestNoPartsAndEmptyOnes(t *testing.T) {
	seed := mixedWord(4)
	nothing := [][][]byte{nil, {}, {nil}, {{}}, {nil, {}, nil}, {{}, {}, {}, {}}}
	for _, parts := range nothing {
		public, s := signed(t, seed, parts...)
		for _, others := range nothing {
			verified(t, true, public, s, others...)
		}
		verified(t, false, public, s, []byte{0})
		verified(t, false, public, s, nil, []byte{0}, nil)
	}
	signed(t, seed, nil, []byte("a"), []byte{}, nil, []byte("bc"), []byte{})
}

// lengths are those about which the sum that is signed begins a new block: of the text alone, and with 32 or 64 bytes ahead of it.
func lengths() []int {
	out := []int{0, 1, 2, 3, 31, 32, 33}
	for _, n := range []int{111, 112, 127, 128, 129, 240, 256} {
		for _, ahead := range []int{0, 32, 64} {
			out = append(out, n-ahead-1, n-ahead, n-ahead+1)
		}
	}
	slices.Sort(out)
	return slices.Compact(out)
}

// pieces cuts b into parts of n bytes each, the last one as it comes.
func pieces(b []byte, n int) [][]byte {
	var out [][]byte
	for len(b) > n {
		out, b = append(out, b[:n]), b[n:]
	}
	return append(out, b)
}

// cuts are the places in n bytes where a text is cut: all of a short one.
func cuts(n int) []int {
	var out []int
	for cut := range n + 1 {
		if n <= 40 || n == 129 || cut < 2 || cut > n-2 || slices.Contains([]int{31, 32, 33, 47, 48, 63, 64, 65, 79, 80, 95, 96, 97, 111, 112, 127, 128}, cut) {
			out = append(out, cut)
		}
	}
	return out
}

// parted fails where the parts' signature is not s, or s is not found to be theirs.
func parted(t *testing.T, seed, public api.Word, s api.Sig, parts ...[]byte) {
	t.Helper()
	if got := sig.Sign(seed, parts...); got != s {
		t.Errorf("P10.1: Sign of %d bytes in %d parts: %x, not %x", len(slices.Concat(parts...)), len(parts), got, s)
	}
	verified(t, true, public, s, parts...)
}

func TestHowBytesArePartedDoesNotCount(t *testing.T) {
	t.Parallel()
	seed := mixedWord(5)
	for _, n := range lengths() {
		b := mixed(n)
		public, s := signed(t, seed, b)
		for _, cut := range cuts(n) {
			parted(t, seed, public, s, b[:cut], b[cut:])
			if n <= 40 {
				parted(t, seed, public, s, nil, b[:cut], []byte{}, nil, b[cut:], []byte{})
			}
		}
		for _, size := range []int{1, 7, 32, 63, 64, 65, 127, 128} {
			parted(t, seed, public, s, pieces(b, size)...)
		}
	}
}

func TestAShortTextInThreeParts(t *testing.T) {
	seed, b := mixedWord(6), mixed(12)
	public, s := signed(t, seed, b)
	for i := range len(b) + 1 {
		for j := i; j <= len(b); j++ {
			parted(t, seed, public, s, b[:i], b[i:j], b[j:])
		}
	}
}

func TestManyParts(t *testing.T) {
	seed, b := mixedWord(7), mixed(70000)
	public, s := signed(t, seed, b)
	parted(t, seed, public, s, pieces(b, 1)...)
	signed(t, seed, make([][]byte, 70000)...)
}

func TestTheOrderOfPartsCounts(t *testing.T) {
	seed := mixedWord(8)
	a, b := []byte("a"), []byte("b")
	public, s := signed(t, seed, a, b)
	_, other := signed(t, seed, b, a)
	if s == other {
		t.Error("P10.1: Sign of ab and of ba is one")
	}
	verified(t, false, public, s, b, a)
	verified(t, false, public, other, a, b)
}

func TestASignatureIsTheSameEachTime(t *testing.T) {
	for i := range 20 {
		seed, b := mixedWord(i), mixed(i*10)
		first, public := sig.Sign(seed, b), sig.Public(seed)
		sig.Sign(mixedWord(i+1), b)
		sig.Sign(seed, mixed(i*10+1))
		sig.Verify(public, api.Sig{}, b)
		if sig.Sign(seed, b) != first || sig.Public(seed) != public || !sig.Verify(public, first, b) {
			t.Errorf("R5: another answer the next time, for %x", seed)
		}
	}
}

func TestNoTwoTextsAreSignedWithOneNumber(t *testing.T) {
	// Who has two signatures with one first half can reckon the secret.
	owners := map[api.Word]int{}
	for n := range 200 {
		s := sig.Sign(mixedWord(9), mixed(n))
		if other, ok := owners[api.Word(s[:32])]; ok {
			t.Errorf("P10.1: Sign of %d and of %d bytes begin alike", other, n)
		}
		owners[api.Word(s[:32])] = n
	}
}

func TestAnswersHangOnTheArgumentsAlone(t *testing.T) {
	const n = 24
	var publics [n]api.Word
	var sigs [n]api.Sig
	for i := range n {
		publics[i], sigs[i] = sig.Public(mixedWord(i)), sig.Sign(mixedWord(i), mixed(i), mixed(100))
	}
	var group sync.WaitGroup
	for range 4 {
		group.Go(func() {
			for i := n - 1; i >= 0; i-- {
				if sig.Public(mixedWord(i)) != publics[i] || sig.Sign(mixedWord(i), mixed(i), mixed(100)) != sigs[i] {
					t.Errorf("R5: another answer the next time, for %x", mixedWord(i))
				}
				for j := range n {
					if sig.Verify(publics[j], sigs[i], mixed(i), mixed(100)) != (i == j) {
						t.Errorf("R5: Verify of number %d with the key of number %d", i, j)
					}
				}
			}
		})
	}
	group.Wait()
}

func scribble(b []byte) {
	for i := range b {
		b[i] ^= 0xee
	}
}

func TestPartsStayAsTheyWere(t *testing.T) {
	seed := mixedWord(10)
	for _, n := range lengths() {
		all := mixed(n + 200)
		before := bytes.Clone(all)
		parts := [][]byte{all[:n], nil, all[:n/2], {}}
		public := sig.Public(seed)
		s := sig.Sign(seed, parts...)
		sig.Verify(public, s, parts...)
		sig.Verify(public, api.Sig{}, parts...)
		if !bytes.Equal(all, before) {
			t.Errorf("R4: %d bytes that were handed in were changed", n)
		}
		if len(parts) != 4 || !bytes.Equal(parts[0], before[:n]) || parts[1] != nil || !bytes.Equal(parts[2], before[:n/2]) || parts[3] == nil || len(parts[3]) != 0 {
			t.Errorf("R4: the list of parts of %d bytes was changed", n)
		}
		if seed != mixedWord(10) {
			t.Errorf("R4: the seed is %x now", seed)
		}
	}
}

func TestTheListOfPartsKeepsItsSpareRoom(t *testing.T) {
	seed := mixedWord(11)
	texts := []string{"a", "b", "c", "d", "e", "f"}
	for n := range len(texts) + 1 {
		var spare [][]byte
		for _, text := range texts {
			spare = append(spare, []byte(text))
		}
		s := sig.Sign(seed, spare[:n]...)
		sig.Verify(sig.Public(seed), s, spare[:n]...)
		for i, want := range texts {
			if string(spare[i]) != want {
				t.Errorf("R4: part %d is %q now", i, spare[i])
			}
		}
	}
}

func TestPartsAreNotKept(t *testing.T) {
	seed := mixedWord(12)
	for _, n := range lengths() {
		b, tail := mixed(n+50), []byte("tail")
		parts := [][]byte{b[:n], tail}
		public, s := signed(t, seed, parts...)
		was := s
		scribble(b)
		scribble(tail)
		parts[0] = nil
		if s != was || sig.Public(seed) != public {
			t.Errorf("R4: what was answered of %d bytes turned", n)
		}
		verified(t, true, public, s, mixed(n), []byte("tail"))
		verified(t, false, public, s, b[:n], tail)
	}
}

func TestAnswersAreTheirOwn(t *testing.T) {
	seed := mixedWord(13)
	public, s := signed(t, seed, []byte("abc"))
	scribble(public[:])
	scribble(s[:])
	signed(t, seed, []byte("abc"))
}

// Go's own package finds them to be signatures, too.
func TestOthersVerify(t *testing.T) {
	for i := range 50 {
		seed, b := mixedWord(i), mixed(i*5)
		public, s := sig.Public(seed), sig.Sign(seed, b[:i], b[i:])
		if !ed25519.Verify(public[:], b, s[:]) {
			t.Errorf("P10.1: Sign of %d bytes is none: %x", len(b), s)
		}
	}
}

func BenchmarkSign(b *testing.B) {
	for b.Loop() {
		sig.Sign(api.Word{1}, []byte("abc"))
	}
}

func BenchmarkVerify(b *testing.B) {
	public, s := sig.Public(api.Word{1}), sig.Sign(api.Word{1}, []byte("abc"))
	for b.Loop() {
		sig.Verify(public, s, []byte("abc"))
	}
}
