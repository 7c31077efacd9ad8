package aead_test

import (
	"bytes"
	"crypto/sha256"
	"encoding/binary"
	"encoding/hex"
	"hash"
	"testing"

	"bandbox/aead"
	"bandbox/api"
	"bandbox/chacha"
	"bandbox/poly"
)

const (
	tagSize   = 16
	noughts   = "0000000000000000000000000000000000000000000000000000000000000000"
	full      = "ffffffffffffffffffffffffffffffffffffffffffffffffffffffffffffffff"
	rising    = "808182838485868788898a8b8c8d8e8f909192939495969798999a9b9c9d9e9f" // RFC 8439's own
	toves     = "1c9240a5eb55d38af333888604f6b5f0473917c1402b80099dca5cbc207075c0" // and its appendix's
	unlikeKey = "c9ee13385d82a7ccf1163b6085aacff4193e6388add2f71c41668bb0d5fa1f44" // no two bytes alike
	unlikeOne = "116ac31c75ce2780d9328be4"                                         // nor here
)

func unhex(t testing.TB, s string) []byte {
	t.Helper()
	b, err := hex.DecodeString(s)
	if err != nil {
		t.Fatal(err)
	}
	return b
}

func keyOf(t testing.TB, s string) api.Word {
	t.Helper()
	return api.Word(unhex(t, s))
}

func nonceOf(t testing.TB, s string) [12]byte {
	t.Helper()
	return [12]byte(unhex(t, s))
}

// unlike is a key and a nonce whose bytes all differ.
func unlike(t testing.TB) (api.Word, [12]byte) {
	t.Helper()
	return keyOf(t, unlikeKey), nonceOf(t, unlikeOne)
}

// mixed is n bytes of which no two blocks are alike.
func mixed(n int) []byte {
	b := make([]byte, n)
	for i := range b {
		b[i] = byte(i*7 + i>>4*31 + i>>11*3 + 1)
	}
	return b
}

// aside is n bytes that are unlike those of a text.
func aside(n int) []byte { return mixed(n + 5)[5:] }

// lengths are those on both sides of where a new block of the tag or of the stream begins.
func lengths() []int {
	return []int{0, 1, 2, 15, 16, 17, 31, 32, 33, 47, 48, 49, 63, 64, 65, 127, 128, 129, 255, 256, 257, 1000}
}

// wantedKey is the beginning of the stream's block 0.
func wantedKey(key api.Word, nonce [12]byte) api.Word {
	stream := chacha.Block(key, 0, nonce)
	return api.Word(stream[:32])
}

// wantedTag is the tag of RFC 8439's text in one piece, each of its two filled up by counting.
func wantedTag(key api.Word, nonce [12]byte, hidden, beside []byte) [tagSize]byte {
	var text []byte
	for _, b := range [][]byte{beside, hidden} {
		text = append(text, b...)
		for len(text)%16 != 0 {
			text = append(text, 0)
		}
	}
	text = binary.LittleEndian.AppendUint64(text, uint64(len(beside)))
	text = binary.LittleEndian.AppendUint64(text, uint64(len(hidden)))
	return poly.Tag(wantedKey(key, nonce), text)
}

// tagged puts its tag behind what is hidden.
func tagged(key api.Word, nonce [12]byte, hidden, beside []byte) []byte {
	tag := wantedTag(key, nonce, hidden, beside)
	return append(bytes.Clone(hidden), tag[:]...)
}

// wantedSealed asks for each block of the stream by itself, from 1 on.
func wantedSealed(key api.Word, nonce [12]byte, plain, beside []byte) []byte {
	hidden := bytes.Clone(plain)
	for i := range hidden {
		if i%64 == 0 {
			stream := chacha.Block(key, uint32(1+i/64), nonce)
			for j := i; j < len(hidden) && j < i+64; j++ {
				hidden[j] ^= stream[j-i]
			}
		}
	}
	return tagged(key, nonce, hidden, beside)
}

// sealed is Seal where it is not refused, held against what is wanted.
func sealed(t testing.TB, key api.Word, nonce [12]byte, plain, beside []byte) []byte {
	t.Helper()
	b, e := aead.Seal(key, nonce, plain, beside)
	if e != api.OK || !bytes.Equal(b, wantedSealed(key, nonce, plain, beside)) {
		t.Fatalf("P6.1: Seal of %d bytes, %d beside: %d bytes, %d", len(plain), len(beside), len(b), e)
	}
	return b
}

// opens checks that Open answers plain.
func opens(t testing.TB, key api.Word, nonce [12]byte, b, beside, plain []byte) {
	t.Helper()
	got, e := aead.Open(key, nonce, b, beside)
	if e != api.OK || !bytes.Equal(got, plain) {
		t.Fatalf("P6.1: Open of %d bytes, %d beside: %d bytes, %d", len(b), len(beside), len(got), e)
	}
}

// refuses checks that Open answers want, and no byte beside it, not in spare room either.
func refuses(t testing.TB, want api.Errno, key api.Word, nonce [12]byte, b, beside []byte) {
	t.Helper()
	if got, e := aead.Open(key, nonce, b, beside); e != want || cap(got) != 0 {
		t.Fatalf("P6.1, R2: Open of %d bytes, %d beside: %d bytes, %d, not %d", len(b), len(beside), cap(got), e, want)
	}
}

func TestTheChaptersExample(t *testing.T) {
	key, nonce := unlike(t)
	plain, beside := []byte("what was sealed"), []byte("beside")
	b, e := aead.Seal(key, nonce, plain, beside)
	if e != api.OK || len(b) != len(plain)+tagSize || bytes.Contains(b, plain) {
		t.Fatalf("P6.1: Seal: %x, %d", b, e)
	}
	if got, e := aead.Open(key, nonce, b, beside); e != api.OK || string(got) != "what was sealed" {
		t.Errorf("P6.1: Open of Seal: %q, %d", got, e)
	}
}

// RFC 8439 has the first one in 2.8.2, the second in A.5; the others another AEAD answered.
func TestKnownSealed(t *testing.T) {
	const (
		sunscreen = "Ladies and Gentlemen of the class of '99: If I could offer you only one tip for the future, sunscreen would be it."
		drafts    = "Internet-Drafts are draft documents valid for a maximum of six months and may be updated, replaced, or obsoleted by other documents at any time. It is inappropriate to use Internet-Drafts as reference material or to cite them other than as /\u201cwork in progress./\u201d"
	)
	most := full[:32]
	for i, c := range []struct{ key, nonce, plain, beside, want string }{
		{rising, "070000004041424344454647", sunscreen, "50515253c0c1c2c3c4c5c6c7", "d31a8d34648e60db7b86afbc53ef7ec2a4aded51296e08fea9e2b5a736ee62d63dbea45e8ca9671282fafb69da92728b1a71de0a9e060b2905d6a5b67ecd3b3692ddbd7f2d778b8c9803aee328091b58fab324e4fad675945585808b4831d7bc3ff4def08e4b7a9de576d26586cec64b61161ae10b594f09e26a7e902ecbd0600691"},
		{toves, "000000000102030405060708", drafts, "f33388860000000000004e91", "64a0861575861af460f062c79be643bd5e805cfd345cf389f108670ac76c8cb24c6cfc18755d43eea09ee94e382d26b0bdb7b73c321b0100d4f03b7f355894cf332f830e710b97ce98c8a84abd0b948114ad176e008d33bd60f982b1ff37c8559797a06ef4f0ef61c186324e2b3506383606907b6a7c02b0f9f6157b53c867e4b9166c767b804d46a59b5216cde7a4e99040c5a40433225ee282a1b0a06c523eaf4534d7f83fa1155b0047718cbc546a0d072b04b3564eea1b422273f548271a0bb2316053fa76991955ebd63159434ecebb4e466dae5a1073a6727627097a1049e617d91d361094fa68f0ff77987130305beaba2eda04df997b714d6c6f2c29a6ad5cb4022b02709beead9d67890cbb22392336fea1851f38"},
		{noughts, noughts[:24], "", "", "4eb972c9a8fb3a1b382bb4d36f5ffad1"},
		{noughts, noughts[:24], "", unlikeOne, "17c7eeefd827cd24892e0ade4aeb2293"},
		{noughts, noughts[:24], "\x00", "", "9fbedcfd1809ff3c10adf8277fcc0581b8"},
		{full, full[:24], string(unhex(t, most)), most, "22d8bfc313e141bd692c82cec7785b29d8ae4f8a6eb98f32471e5fcb147b5e40"},
		{noughts, noughts[:24], string(make([]byte, 64)), "", "9f07e7be5551387a98ba977c732d080dcb0f29a048e3656912c6533e32ee7aed29b721769ce64e43d57133b074d839d531ed1f28510afb45ace10a1f4b794d6f75c5180ef52d6921037a3d0af9f0dac8"},
	} {
		key, nonce, beside := keyOf(t, c.key), nonceOf(t, c.nonce), unhex(t, c.beside)
		b, e := aead.Seal(key, nonce, []byte(c.plain), beside)
		if e != api.OK || hex.EncodeToString(b) != c.want {
			t.Errorf("P6.1: Seal, number %d: %x, %d", i, b, e)
		}
		opens(t, key, nonce, unhex(t, c.want), beside, []byte(c.plain))
	}
}

// RFC 8439 has the first one in 2.6.2, the next three in A.4; the others another ChaCha20 answered.
func TestKnownKeys(t *testing.T) {
	for i, c := range [][3]string{
		{rising, "000000000001020304050607", "8ad5a08b905f81cc815040274ab29471a833b637e3fd0da508dbb8e2fdd1a646"},
		{noughts, noughts[:24], "76b8e0ada0f13d90405d6ae55386bd28bdd219b8a08ded1aa836efcc8b770dc7"},
		{noughts[:62] + "01", noughts[:22] + "02", "ecfa254f845f647473d3cb140da9e87606cb33066c447b87bc2666dde3fbb739"},
		{toves, noughts[:22] + "02", "965e3bc6f9ec7ed9560808f4d229f94b137ff275ca9b3fcbdd59deaad23310ae"},
		{toves, "000000000102030405060708", "bdf04aa95ce4de8995b14bb6a18fecaf26478f50c054f563dbc0a21e261572aa"},
		{unlikeKey, unlikeOne, "98d67c690047eef40a990c683d61400ff2673b21acaa9f0c027566fcad9cba9d"},
		{full, full[:24], "d6e63495eafed7fc3bf8e7c419fa77be8234a6a49df517ebab06c8f65d9f7a17"},
	} {
		got := aead.Key(keyOf(t, c[0]), nonceOf(t, c[1]))
		if hex.EncodeToString(got[:]) != c[2] {
			t.Errorf("P6.1: Key, number %d: %x", i, got)
		}
	}
}

// turned is a key and a nonce with their bit i turned: of the key to 255, of the nonce from there on.
func turned(t *testing.T, i int) (api.Word, [12]byte) {
	t.Helper()
	key, nonce := unlike(t)
	if i < 256 {
		key[i/8] ^= 1 << (i % 8)
	} else {
		nonce[(i-256)/8] ^= 1 << (i % 8)
	}
	return key, nonce
}

func TestKeyHangsOnEachBitOfKeyAndNonce(t *testing.T) {
	key, nonce := unlike(t)
	seen := map[api.Word]int{aead.Key(key, nonce): 1}
	for i := range 256 + 96 {
		key, nonce := turned(t, i)
		got := aead.Key(key, nonce)
		if got != wantedKey(key, nonce) {
			t.Errorf("P6.1: Key with the bit %d turned: %x", i, got)
		}
		seen[got]++
	}
	if len(seen) != 353 {
		t.Errorf("P6.1: of 353 keys %d are unlike", len(seen))
	}
}

// The tag that stands behind the sealed bytes is made with Key's answer.
func TestTheTagIsMadeWithKey(t *testing.T) {
	key, nonce := unlike(t)
	b := sealed(t, key, nonce, nil, nil)
	tag := poly.Tag(aead.Key(key, nonce), make([]byte, 16))
	if !bytes.Equal(b, tag[:]) {
		t.Errorf("P6.1: Seal of nothing: %x", b)
	}
}

// sums checks Seal and Open of all pairs of these lengths; all that was sealed has the sum that another AEAD's answers have.
func sums(t *testing.T, plains, besides []int, want string) {
	t.Helper()
	key, nonce := unlike(t)
	all := sha256.New()
	for _, n := range plains {
		for _, m := range besides {
			sumOfOne(t, all, key, nonce, mixed(n), aside(m))
		}
	}
	if got := hex.EncodeToString(all.Sum(nil)); got != want {
		t.Errorf("P6.1: all that was sealed has the sum %s", got)
	}
}

func sumOfOne(t *testing.T, all hash.Hash, key api.Word, nonce [12]byte, plain, beside []byte) {
	t.Helper()
	b := sealed(t, key, nonce, plain, beside)
	if len(b) != len(plain)+tagSize {
		t.Fatalf("P6.1: Seal of %d bytes: %d", len(plain), len(b))
	}
	opens(t, key, nonce, b, beside, plain)
	all.Write(b)
}

func TestSealAndOpenOfEachLengthWithEach(t *testing.T) {
	sums(t, lengths(), lengths(), "814b728f95ca35015f1256e8288bf23974fabe910692ec40a366abef0cb9e554")
}

func TestLongTexts(t *testing.T) {
	sums(t, []int{65534, 65535, 65536}, []int{0, 1, 17}, "58051de9a3f6680c78e9b0de39b752bb0e84845589340f8d8b9435b6fe5ba473")
}

// What stands beside has no limit of its own.
func TestMuchBeside(t *testing.T) {
	sums(t, []int{0, 1, 17}, []int{65535, 65536, 65537, 1 << 20, 1<<24 + 3}, "979364eb0a6caf1e4f1b23b9d672e0f933c65bf4e29e977127a61175de5fee9c")
}

func TestNilAndEmptyAreOne(t *testing.T) {
	key, nonce := unlike(t)
	nothings := [][]byte{nil, {}, mixed(40)[:0]}
	for _, n := range []int{0, 1, 16, 65} {
		for i, nothing := range nothings {
			b := sealed(t, key, nonce, nothing, aside(n))
			c := sealed(t, key, nonce, mixed(n), nothing)
			for j, other := range nothings {
				opens(t, key, nonce, b, aside(n), other)
				opens(t, key, nonce, c, other, mixed(n))
				if !bytes.Equal(sealed(t, key, nonce, other, aside(n)), b) || !bytes.Equal(sealed(t, key, nonce, mixed(n), other), c) {
					t.Errorf("R4: Seal of nothing, numbers %d and %d, are unlike", i, j)
				}
			}
		}
	}
}

func TestSealOfTooMuch(t *testing.T) {
	key, nonce := unlike(t)
	for _, n := range []int{api.MaxPlain + 1, api.MaxPlain + 2, api.MaxPlain + 16, api.MaxPlain + 17, 2 * api.MaxPlain, 1 << 20} {
		for _, m := range []int{0, 1, 100} {
			if b, e := aead.Seal(key, nonce, mixed(n), aside(m)); e != api.ELIMIT || cap(b) != 0 {
				t.Errorf("P6.1, R2: Seal of %d bytes: %d bytes, %d", n, cap(b), e)
			}
		}
	}
}

// ELIMIT comes ahead of EAUTH: it is told of a good tag and of another one.
func TestOpenOfTooMuch(t *testing.T) {
	key, nonce := unlike(t)
	for _, n := range []int{api.MaxPlain + 1, api.MaxPlain + 2, api.MaxPlain + 16, api.MaxPlain + 17, 1 << 20} {
		for _, m := range []int{0, 1, 100} {
			refuses(t, api.ELIMIT, key, nonce, wantedSealed(key, nonce, mixed(n), aside(m)), aside(m))
			refuses(t, api.ELIMIT, key, nonce, mixed(n+tagSize), aside(m))
		}
	}
}

func TestOpenOfTheMostWithAnotherTag(t *testing.T) {
	key, nonce := unlike(t)
	refuses(t, api.EAUTH, key, nonce, make([]byte, api.MaxPlain+tagSize), nil)
	b := sealed(t, key, nonce, mixed(api.MaxPlain), aside(3))
	for _, at := range []int{0, 1, 65535, 65536, 65551} {
		b[at] ^= 1
		refuses(t, api.EAUTH, key, nonce, b, aside(3))
		b[at] ^= 1
	}
	opens(t, key, nonce, b, aside(3), mixed(api.MaxPlain))
}

func TestOpenOfFewerBytesThanATag(t *testing.T) {
	key, nonce := unlike(t)
	for _, beside := range [][]byte{nil, aside(1), aside(16)} {
		tag := sealed(t, key, nonce, nil, beside)
		opens(t, key, nonce, tag, beside, nil)
		for n := range tagSize {
			refuses(t, api.EAUTH, key, nonce, tag[:n], beside)
			refuses(t, api.EAUTH, key, nonce, tag[tagSize-n:], beside)
			refuses(t, api.EAUTH, key, nonce, make([]byte, n), beside)
		}
		refuses(t, api.EAUTH, key, nonce, nil, beside)
		refuses(t, api.EAUTH, key, nonce, make([]byte, tagSize), beside)
	}
}

// each calls try for pairs of lengths, with the text's bytes, sealed, and those beside.
func each(t *testing.T, plains, besides []int, try func(b, beside []byte)) {
	t.Helper()
	key, nonce := unlike(t)
	for _, n := range plains {
		for _, m := range besides {
			try(sealed(t, key, nonce, mixed(n), aside(m)), aside(m))
		}
	}
}

// eachBit turns each bit of b by itself, and back.
func eachBit(b []byte, try func()) {
	for i := range 8 * len(b) {
		b[i/8] ^= 1 << (i % 8)
		try()
		b[i/8] ^= 1 << (i % 8)
	}
}

func TestEachBitCounts(t *testing.T) {
	key, nonce := unlike(t)
	each(t, []int{0, 1, 15, 16, 17, 33, 64, 65, 100}, []int{0, 1, 15, 16, 17, 40}, func(b, beside []byte) {
		try := func() {
			t.Helper()
			refuses(t, api.EAUTH, key, nonce, b, beside)
		}
		eachBit(b, try)
		eachBit(beside, try)
		opens(t, key, nonce, b, beside, mixed(len(b)-tagSize))
	})
}

func TestEachBitOfKeyAndNonceCounts(t *testing.T) {
	each(t, []int{0, 1, 16, 65}, []int{0, 1, 16, 40}, func(b, beside []byte) {
		for i := range 256 + 96 {
			key, nonce := turned(t, i)
			refuses(t, api.EAUTH, key, nonce, b, beside)
			plain := mixed(len(b) - tagSize)
			if bytes.Equal(sealed(t, key, nonce, plain, beside), b) {
				t.Errorf("P6.1: Seal of %d bytes with the bit %d turned is the same", len(plain), i)
			}
		}
	})
}

// What differs in one byte must not go away with what differs in another.
func TestTwoSpoiltBytesOfATagDoNotMakeUpForOneAnother(t *testing.T) {
	key, nonce := unlike(t)
	b := sealed(t, key, nonce, mixed(20), aside(5))
	for i := range tagSize {
		for j := range i {
			for _, by := range []byte{1, 0x80, 0xff} {
				spoilt := bytes.Clone(b)
				spoilt[20+i] ^= by
				spoilt[20+j] ^= by
				refuses(t, api.EAUTH, key, nonce, spoilt, aside(5))
				spoilt = bytes.Clone(b)
				spoilt[20+i] += by
				spoilt[20+j] -= by
				refuses(t, api.EAUTH, key, nonce, spoilt, aside(5))
			}
		}
	}
}

// Bytes go over from the beginning of what is hidden to the end of what is beside, and back; whole blocks, too.
func TestABytesPlaceCounts(t *testing.T) {
	key, nonce := unlike(t)
	each(t, []int{1, 2, 15, 16, 17, 32, 33, 64, 65}, []int{0, 1, 2, 15, 16, 17, 32, 33}, func(b, beside []byte) {
		n := len(b) - tagSize
		for _, k := range []int{1, 2, 15, 16, 17, 32} {
			if k <= n {
				refuses(t, api.EAUTH, key, nonce, b[k:], append(bytes.Clone(beside), b[:k]...))
			}
			if k <= len(beside) {
				cut := len(beside) - k
				refuses(t, api.EAUTH, key, nonce, append(bytes.Clone(beside[cut:]), b...), beside[:cut])
			}
		}
		opens(t, key, nonce, b, beside, mixed(n))
	})
}

// With noughts for all bytes none but the lengths tell where what is hidden begins, and where it ends.
func TestNoughtsThatFillABlockCount(t *testing.T) {
	key, nonce := unlike(t)
	for n := range 34 {
		for m := range 34 {
			b, beside := tagged(key, nonce, make([]byte, n), make([]byte, m)), make([]byte, m)
			if _, e := aead.Open(key, nonce, b, beside); e != api.OK {
				t.Fatalf("P6.1: Open of %d noughts, %d beside: %d", n, m, e)
			}
			tag := b[n:]
			for _, other := range [][2]int{{n + 1, m}, {n, m + 1}, {n - 1, m}, {n, m - 1}, {n + 1, m - 1}, {n - 1, m + 1}, {n + 16, m - 16}, {n - 16, m + 16}, {m, n}} {
				if other[0] < 0 || other[1] < 0 || other == [2]int{n, m} {
					continue
				}
				refuses(t, api.EAUTH, key, nonce, append(make([]byte, other[0]), tag...), make([]byte, other[1]))
			}
		}
	}
}

func TestCutShortAndWithMore(t *testing.T) {
	key, nonce := unlike(t)
	each(t, []int{0, 1, 15, 16, 17, 64, 65}, []int{0, 1, 15, 16, 17}, func(b, beside []byte) {
		n := len(b)
		for k := range n {
			refuses(t, api.EAUTH, key, nonce, b[:k], beside)
			refuses(t, api.EAUTH, key, nonce, b[n-k:], beside)
		}
		for _, more := range [][]byte{{0}, {1}, {0x80}, b[n-1:], b[:tagSize], make([]byte, 16), make([]byte, 64)} {
			refuses(t, api.EAUTH, key, nonce, append(bytes.Clone(b), more...), beside)
			refuses(t, api.EAUTH, key, nonce, append(bytes.Clone(more), b...), beside)
			refuses(t, api.EAUTH, key, nonce, b, append(bytes.Clone(beside), more...))
		}
		if len(beside) > 0 {
			refuses(t, api.EAUTH, key, nonce, b, beside[1:])
			refuses(t, api.EAUTH, key, nonce, b, beside[:len(beside)-1])
			refuses(t, api.EAUTH, key, nonce, b, nil)
		}
	})
}

// The tag stands behind what is hidden, and not ahead of it.
func TestTheTagStandsLast(t *testing.T) {
	key, nonce := unlike(t)
	b := sealed(t, key, nonce, mixed(40), nil)
	refuses(t, api.EAUTH, key, nonce, append(bytes.Clone(b[40:]), b[:40]...), nil)
}

// row is bytes with spare room behind them; all of it can be looked at.
func row(b []byte) (all, part []byte) {
	all = append(bytes.Clone(b), mixed(200)...)
	return all, all[:len(b)]
}

func scribble(b []byte) {
	for i := range b {
		b[i] = 0xee
	}
}

// kept runs try with lists that have spare room, and checks that they are as they were.
func kept(t *testing.T, b, beside []byte, try func(b, beside []byte)) {
	t.Helper()
	all, b := row(b)
	others, beside := row(beside)
	before, othersBefore := bytes.Clone(all), bytes.Clone(others)
	try(b, beside)
	if !bytes.Equal(all, before) || !bytes.Equal(others, othersBefore) {
		t.Errorf("R4: of %d bytes, %d beside, some were changed", len(b), len(beside))
	}
}

func TestListsHandedInAreNotChanged(t *testing.T) {
	key, nonce := unlike(t)
	seal := func(b, beside []byte) { aead.Seal(key, nonce, b, beside) }
	open := func(b, beside []byte) { aead.Open(key, nonce, b, beside) }
	for _, n := range []int{0, 1, 15, 16, 17, 64, 65, 1000, api.MaxPlain, api.MaxPlain + 1} {
		for _, m := range []int{0, 1, 15, 16, 17, 100} {
			good := wantedSealed(key, nonce, mixed(n), aside(m))
			kept(t, mixed(n), aside(m), seal)
			kept(t, good, aside(m), open)
			kept(t, good[1:], aside(m), open)
			kept(t, mixed(n), aside(m), open)
		}
	}
	if k, n := unlike(t); k != key || n != nonce {
		t.Error("R4: a key or a nonce was changed")
	}
}

// One list may be handed in twice, or a piece of another.
func TestListsThatShareMemory(t *testing.T) {
	key, nonce := unlike(t)
	all := mixed(300)
	for _, n := range []int{1, 16, 17, 64, 65, 100} {
		b := sealed(t, key, nonce, all[:n], all[:n])
		opens(t, key, nonce, b, all[:n], all[:n])
		b = sealed(t, key, nonce, all[:n], all[n/2:n+n/2])
		opens(t, key, nonce, b, all[n/2:n+n/2], all[:n])
		own := tagged(key, nonce, b[:n], b[:n])
		opens(t, key, nonce, own, own[:n], all[:n])
	}
	if !bytes.Equal(all, mixed(300)) {
		t.Error("R4: what was handed in was changed")
	}
}

// fresh checks that two answers share no memory with one another, nor with what was handed in.
func fresh(t *testing.T, b, beside, want []byte, call func(b, beside []byte) ([]byte, api.Errno)) {
	t.Helper()
	all, b := row(b)
	others, beside := row(beside)
	before, othersBefore := bytes.Clone(all), bytes.Clone(others)
	first, e := call(b, beside)
	second, f := call(b, beside)
	if e != api.OK || f != api.OK {
		t.Fatalf("P6.1: %d bytes, %d beside: %d, %d", len(b), len(beside), e, f)
	}
	scribble(first[:cap(first)])
	if !bytes.Equal(second, want) {
		t.Errorf("R4: two answers of %d bytes share memory", len(want))
	}
	if !bytes.Equal(all, before) || !bytes.Equal(others, othersBefore) {
		t.Errorf("R4: an answer of %d bytes is what was handed in", len(want))
	}
	scribble(all)
	scribble(others)
	if !bytes.Equal(second, want) {
		t.Errorf("R4: an answer of %d bytes shares memory with what was handed in", len(want))
	}
}

func TestWhatIsAnsweredIsNewMemory(t *testing.T) {
	key, nonce := unlike(t)
	seal := func(b, beside []byte) ([]byte, api.Errno) { return aead.Seal(key, nonce, b, beside) }
	open := func(b, beside []byte) ([]byte, api.Errno) { return aead.Open(key, nonce, b, beside) }
	for _, n := range []int{0, 1, 15, 16, 17, 63, 64, 65, 1000, api.MaxPlain} {
		for _, m := range []int{0, 1, 16, 100} {
			b := wantedSealed(key, nonce, mixed(n), aside(m))
			fresh(t, mixed(n), aside(m), b, seal)
			fresh(t, b, aside(m), mixed(n), open)
		}
	}
}

func TestAnswersHangOnArgumentsAlone(t *testing.T) {
	key, nonce := unlike(t)
	b := bytes.Clone(sealed(t, key, nonce, mixed(100), aside(20)))
	for _, n := range []int{0, 1, 100, api.MaxPlain, api.MaxPlain + 1} {
		aead.Seal(api.Word{}, nonce, mixed(n), aside(3))
		aead.Open(key, [12]byte{}, b, aside(20))
		aead.Open(key, nonce, mixed(n), nil)
		aead.Key(api.Word{}, [12]byte{})
		if got := sealed(t, key, nonce, mixed(100), aside(20)); !bytes.Equal(got, b) {
			t.Errorf("R5: Seal hangs on a call with %d bytes ahead of it", n)
		}
		opens(t, key, nonce, b, aside(20), mixed(100))
		if aead.Key(key, nonce) != wantedKey(key, nonce) {
			t.Errorf("R5: Key hangs on a call with %d bytes ahead of it", n)
		}
	}
	_, plain := row(mixed(100))
	_, beside := row(aside(20))
	if !bytes.Equal(sealed(t, key, nonce, plain, beside), b) {
		t.Error("R5: Seal hangs on spare room")
	}
	_, roomy := row(b)
	opens(t, key, nonce, roomy, beside, mixed(100))
}

// No key and no nonce is refused.
func TestAnyKeyAndNonce(t *testing.T) {
	for _, k := range []string{noughts, full, rising, unlikeKey} {
		for _, n := range []string{noughts[:24], full[:24], unlikeOne, noughts[:22] + "01", "01" + noughts[:22]} {
			key, nonce := keyOf(t, k), nonceOf(t, n)
			for _, size := range []int{0, 1, 64, 300} {
				opens(t, key, nonce, sealed(t, key, nonce, mixed(size), aside(size)), aside(size), mixed(size))
			}
		}
	}
}

func BenchmarkSeal(b *testing.B) {
	plain := mixed(api.MaxPlain)
	b.SetBytes(int64(len(plain)))
	for b.Loop() {
		aead.Seal(api.Word{1, 2, 3}, [12]byte{4}, plain, nil)
	}
}
