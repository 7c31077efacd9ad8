package kdf_test

import (
	"bytes"
	"crypto/hkdf"
	"crypto/hmac"
	"crypto/sha256"
	"encoding/binary"
	"encoding/hex"
	"math"
	"strings"
	"testing"

	"bandbox/api"
	"bandbox/kdf"
)

// The chapter lists Mac and Key as variadic.
var (
	_ func([]byte, ...[]byte) api.Word   = kdf.Mac
	_ func(api.Word, ...string) api.Word = kdf.Key
)

// mixed is n bytes of which no two blocks are alike.
func mixed(n int) []byte {
	b := make([]byte, n)
	for i := range b {
		b[i] = byte(i*7 + i>>5*31 + 1)
	}
	return b
}

func mixedWord() api.Word { return api.Word(mixed(32)) }

func unhex(t *testing.T, s string) []byte {
	t.Helper()
	b, err := hex.DecodeString(s)
	if err != nil {
		t.Fatal(err)
	}
	return b
}

func hexed(w api.Word) string { return hex.EncodeToString(w[:]) }

// lengths are those on both sides of where a key or what is summed begins a new block.
func lengths() []int {
	return []int{0, 1, 31, 32, 33, 54, 55, 56, 57, 63, 64, 65, 66, 119, 120, 127, 128, 129, 200, 1000}
}

func wantedMac(key []byte, parts ...[]byte) api.Word {
	h := hmac.New(sha256.New, key)
	for _, part := range parts {
		h.Write(part)
	}
	return api.Word(h.Sum(nil))
}

func wantedExpand(t *testing.T, key api.Word, info []byte, n int) []byte {
	t.Helper()
	b, err := hkdf.Expand(sha256.New, key[:], string(info), n)
	if err != nil {
		t.Fatal(err)
	}
	return b
}

func wantedKey(t *testing.T, secret api.Word, info ...string) api.Word {
	t.Helper()
	var b []byte
	for _, text := range info {
		b = binary.BigEndian.AppendUint16(b, uint16(len(text)&0xffff))
		b = append(b, text...)
	}
	return api.Word(wantedExpand(t, secret, b, 32))
}

// expanded is Expand where it is not refused.
func expanded(t *testing.T, key api.Word, info []byte, n int) []byte {
	t.Helper()
	b, e := kdf.Expand(key, info, n)
	if e != api.OK || len(b) != n {
		t.Fatalf("P3.1: Expand(%d): %d bytes, error %d", n, len(b), e)
	}
	return b
}

func TestTheChaptersExample(t *testing.T) {
	got := kdf.Mac([]byte("key"), []byte("The quick brown fox jumps over the lazy dog"))
	if hexed(got) != "f7bc83f430538424b13298e6aa6fb143ef4d59a14946175997479dbc2d1a3cd8" {
		t.Errorf("P3.1: Mac(key, The quick brown fox ..) = %x", got)
	}
}

// RFC 4231 has these.
func TestKnownMacs(t *testing.T) {
	cases := []struct{ key, text, want string }{
		{strings.Repeat("\x0b", 20), "Hi There", "b0344c61d8db38535ca8afceaf0bf12b881dc200c9833da726e9376c2e32cff7"},
		{"Jefe", "what do ya want for nothing?", "5bdcc146bf60754e6a042426089575c75a003f089d2739839dec58b964ec3843"},
		{strings.Repeat("\xaa", 20), strings.Repeat("\xdd", 50), "773ea91e36800e46854db8ebd09181a72959098b3ef8c122d9635514ced565fe"},
		{"\x01\x02\x03\x04\x05\x06\x07\x08\x09\x0a\x0b\x0c\x0d\x0e\x0f\x10\x11\x12\x13\x14\x15\x16\x17\x18\x19", strings.Repeat("\xcd", 50), "82558a389a443c0ea4cc819899f2083a85f0faa3e578f8077a2e3ff46729665b"},
		{strings.Repeat("\xaa", 131), "Test Using Larger Than Block-Size Key - Hash Key First", "60e431591ee0b67f0d8a26aacbf5b77f8e0bc6213728c5140546040f0ee37f54"},
		{strings.Repeat("\xaa", 131), "This is a test using a larger than block-size key and a larger than block-size data. The key needs to be hashed before being used by the HMAC algorithm.", "9b09ffa71b942fcb27635fbcd5b0e944bfdc63644f0713938a7f51535c3a35e2"},
	}
	for i, c := range cases {
		if got := kdf.Mac([]byte(c.key), []byte(c.text)); hexed(got) != c.want {
			t.Errorf("P3.1: Mac, number %d: %x", i, got)
		}
	}
}

func TestMacOfKeysAndPartsOfEveryLength(t *testing.T) {
	for keyLength := range 140 {
		key := mixed(keyLength)
		for _, n := range lengths() {
			b := mixed(n)
			if got := kdf.Mac(key, b); got != wantedMac(key, b) {
				t.Errorf("P3.1: Mac of %d bytes with a key of %d: %x", n, keyLength, got)
			}
		}
	}
	for _, keyLength := range []int{191, 192, 193, 4096, 65537, 1 << 20} {
		key := mixed(keyLength)
		if got := kdf.Mac(key, key); got != wantedMac(key, key) {
			t.Errorf("P3.1: Mac with a key of %d bytes: %x", keyLength, got)
		}
	}
}

func TestMacTakesTheSumOfALongKeyAlone(t *testing.T) {
	b := []byte("part")
	for n, summed := range map[int]bool{33: false, 63: false, 64: false, 65: true, 66: true, 128: true, 129: true} {
		key := mixed(n)
		sum := sha256.Sum256(key)
		if (kdf.Mac(key, b) == kdf.Mac(sum[:], b)) != summed {
			t.Errorf("P3.1: a key of %d bytes: that its sum is taken should be %t", n, summed)
		}
	}
}

func TestMacFillsAShortKeyWithNoughts(t *testing.T) {
	b := []byte("part")
	for n := range 65 {
		key := mixed(n)
		if kdf.Mac(key, b) != kdf.Mac(append(key, make([]byte, 64-n)...), b) {
			t.Errorf("P3.1: a key of %d bytes, and noughts behind it", n)
		}
	}
	if kdf.Mac(make([]byte, 64), b) == kdf.Mac(make([]byte, 65), b) {
		t.Error("P3.1: a key of 65 noughts is taken for one of 64")
	}
}

func TestMacOfNoPartsAndEmptyOnes(t *testing.T) {
	for _, keyLength := range lengths() {
		key := mixed(keyLength)
		want := wantedMac(key)
		for i, parts := range [][][]byte{nil, {}, {nil}, {{}}, {nil, {}, nil}} {
			if got := kdf.Mac(key, parts...); got != want {
				t.Errorf("P3.1: Mac of nothing, number %d, with a key of %d bytes: %x", i, keyLength, got)
			}
		}
		want = wantedMac(key, []byte("abc"))
		if got := kdf.Mac(key, nil, []byte("a"), []byte{}, nil, []byte("bc"), []byte{}); got != want {
			t.Errorf("P3.1: Mac with empty parts, with a key of %d bytes: %x", keyLength, got)
		}
	}
	if kdf.Mac(nil) != kdf.Mac([]byte{}) {
		t.Error("R4: as a key, nil and an empty list are not alike")
	}
}

func TestMacsPartsStandBehindOneAnother(t *testing.T) {
	key := []byte("key")
	for _, n := range lengths() {
		b := mixed(n)
		want := wantedMac(key, b)
		var single [][]byte
		for cut := range n {
			single = append(single, b[cut:cut+1])
			if kdf.Mac(key, b[:cut], b[cut:]) != want || kdf.Mac(key, b[:cut/2], b[cut/2:cut], nil, b[cut:]) != want {
				t.Errorf("P3.1: Mac of %d bytes, cut at %d", n, cut)
			}
		}
		if kdf.Mac(key, single...) != want {
			t.Errorf("P3.1: Mac of %d bytes, one by one", n)
		}
	}
	if kdf.Mac(key, []byte("b"), []byte("a")) != wantedMac(key, []byte("ba")) {
		t.Error("P3.1: Mac of b, and a behind it")
	}
}

// RFC 5869 has these.
func TestKnownExpansions(t *testing.T) {
	row := everyByte()
	cases := []struct {
		salt, secret, info []byte
		key, want          string
	}{
		{row[:13], bytes.Repeat([]byte{11}, 22), row[0xf0:0xfa], "077709362c2e32df0ddc3f0dc47bba6390b6c73bb50f9c3122ec844ad7c2b3e5", "3cb25f25faacd57a90434f64d0362f2a2d2d0a90cf1a5a4c5db02d56ecc4c5bf34007208d5b887185865"},
		{row[0x60:0xb0], row[:0x50], row[0xb0:], "06a6b88c5853361a06104c9ceb35b45cef760014904671014a193f40c15fc244", "b11e398dc80327a1c8e7f78c596a49344f012eda2d4efad8a050cc4c19afa97c59045a99cac7827271cb41c65e590e09da3275600c2f09b8367793a9aca3db71cc30c58179ec3e87c14c01d5c1f3434f1d87"},
		{nil, bytes.Repeat([]byte{11}, 22), nil, "19ef24a32c717b167f33a91d6f648bdf96596776afdb6377ac434c1c293ccb04", "8da4e775a563c18f715f802a063c5a31b8a11f5c5ee1879ec3454e5f3c738d2d9d201395faa4b61a96c8"},
	}
	for i, c := range cases {
		key := kdf.Extract(c.salt, c.secret)
		if hexed(key) != c.key {
			t.Errorf("P3.1: Extract, number %d: %x", i, key)
		}
		want := unhex(t, c.want)
		if got := expanded(t, key, c.info, len(want)); !bytes.Equal(got, want) {
			t.Errorf("P3.1: Expand, number %d: %x", i, got)
		}
	}
}

// everyByte is each byte once, from 0 to 255.
func everyByte() []byte {
	b := make([]byte, 256)
	for i := range b {
		b[i] = byte(i)
	}
	return b
}

func TestExtractOfEveryLength(t *testing.T) {
	for _, saltLength := range lengths() {
		for _, n := range lengths() {
			salt, secret := mixed(saltLength), mixed(n)
			want, err := hkdf.Extract(sha256.New, secret, salt)
			if err != nil {
				t.Fatal(err)
			}
			if got := kdf.Extract(salt, secret); !bytes.Equal(got[:], want) {
				t.Errorf("P3.1: Extract of %d bytes with a salt of %d: %x", n, saltLength, got)
			}
			if kdf.Extract(salt, secret) != kdf.Mac(salt, secret) {
				t.Errorf("P3.1: Extract of %d bytes with a salt of %d is not their Mac", n, saltLength)
			}
		}
	}
}

func TestExtractWithAnEmptySalt(t *testing.T) {
	for _, secret := range [][]byte{nil, {}, []byte("secret"), mixed(100)} {
		want := wantedMac(make([]byte, 32), secret)
		for i, salt := range [][]byte{nil, {}, make([]byte, 32), mixed(5)[:0]} {
			if got := kdf.Extract(salt, secret); got != want {
				t.Errorf("P3.1: Extract of %d bytes with an empty salt, number %d: %x", len(secret), i, got)
			}
		}
	}
	if kdf.Extract(nil, []byte("secret")) == kdf.Extract([]byte("salt"), []byte("secret")) {
		t.Error("P3.1: Extract looks away from its salt")
	}
	if kdf.Extract([]byte("a"), []byte("b")) == kdf.Extract([]byte("b"), []byte("a")) {
		t.Error("P3.1: Extract takes salt and secret for one another")
	}
}

func TestExpandOfEveryLength(t *testing.T) {
	key := mixedWord()
	all := []int{159, 160, 161, 1000, 4095, 4096, 8127, 8128, 8129, 8159, 8160}
	for n := range 130 {
		all = append(all, n)
	}
	for _, infoLength := range lengths() {
		info := mixed(infoLength)
		for _, n := range all {
			if got := expanded(t, key, info, n); !bytes.Equal(got, wantedExpand(t, key, info, n)) {
				t.Errorf("P3.1: Expand of %d bytes to %d: %x", infoLength, n, got)
			}
		}
	}
}

func TestExpandOfUnlikeKeys(t *testing.T) {
	for i := range 32 {
		var key api.Word
		key[i] = 1
		if got := expanded(t, key, []byte("info"), 70); !bytes.Equal(got, wantedExpand(t, key, []byte("info"), 70)) {
			t.Errorf("P3.1: Expand with the byte %d of the key: %x", i, got)
		}
	}
	if got := expanded(t, api.Word{}, nil, 70); !bytes.Equal(got, wantedExpand(t, api.Word{}, nil, 70)) {
		t.Errorf("P3.1: Expand with a key of noughts: %x", got)
	}
}

func TestExpandToNothing(t *testing.T) {
	if b, e := kdf.Expand(mixedWord(), []byte("info"), 0); len(b) != 0 || e != api.OK {
		t.Errorf("P3.1: Expand(0): %x, %d", b, e)
	}
}

func TestExpandRefuses(t *testing.T) {
	for _, n := range []int{-1, -2, -32, -8160, -8161, -1 << 32, math.MinInt, 8161, 8162, 8192, 1 << 16, 1<<16 + 32, 1 << 31, 1 << 32, 1<<32 + 32, 1 << 40, math.MaxInt} {
		for _, info := range [][]byte{nil, []byte("info")} {
			if b, e := kdf.Expand(mixedWord(), info, n); e != api.EARG || len(b) != 0 || cap(b) != 0 {
				t.Errorf("P3.1, R2: Expand(%d): %x, %d", n, b, e)
			}
		}
	}
}

func TestAShorterExpansionIsTheBeginningOfALongerOne(t *testing.T) {
	key, info := mixedWord(), []byte("info")
	whole := expanded(t, key, info, 8160)
	for n := 0; n < len(whole); n += 1 + n/7 {
		if !bytes.Equal(expanded(t, key, info, n), whole[:n]) {
			t.Errorf("P3.1: Expand(%d) is not the beginning of Expand(8160)", n)
		}
	}
	seen := map[string]int{}
	for i := 0; i < len(whole); i += 32 {
		seen[string(whole[i:i+32])]++
	}
	if len(seen) != 255 {
		t.Errorf("P3.1: Expand(8160) has %d unlike pieces of 255", len(seen))
	}
}

func TestExpandTakesNilForAnEmptyList(t *testing.T) {
	key := mixedWord()
	if !bytes.Equal(expanded(t, key, nil, 100), expanded(t, key, []byte{}, 100)) {
		t.Error("R4: as info, nil and an empty list are not alike")
	}
}

func TestKnownKeys(t *testing.T) {
	secret := api.Word(everyByte()[:32])
	cases := []struct {
		info []string
		want string
	}{
		{nil, "9b4c8120a4823a95f47cde17a244f4507244ee6e3957d1fab9fa29b44d3829b7"},
		{[]string{""}, "472a557f71f01e8d125da03ec21f6b770f62b36f2d7938df3fb55ab396079516"},
		{[]string{"epoch", "x"}, "5a22c524658f935b47c7f471b1865125b27212801f4f241416ef4b2fd57fe03a"},
	}
	for _, c := range cases {
		if got := kdf.Key(secret, c.info...); hexed(got) != c.want {
			t.Errorf("P3.1: Key of %q: %x", c.info, got)
		}
	}
}

func TestKeyIsTheBeginningOfExpand(t *testing.T) {
	secret := mixedWord()
	want := expanded(t, secret, []byte("\x00\x05epoch\x00\x00\x00\x01x"), 32)
	if got := kdf.Key(secret, "epoch", "", "x"); !bytes.Equal(got[:], want) {
		t.Errorf("P3.1: Key of epoch, an empty text, x: %x", got)
	}
	if got := kdf.Key(secret); !bytes.Equal(got[:], expanded(t, secret, nil, 32)) {
		t.Errorf("P3.1: Key of no texts: %x", got)
	}
	if kdf.Key(secret, []string{}...) != kdf.Key(secret) {
		t.Error("R4: as a list of texts, nil and an empty one are not alike")
	}
}

func TestTextsOfKeyThatAreJoinedOtherwise(t *testing.T) {
	seen := map[api.Word][]string{}
	for _, info := range [][]string{nil, {""}, {"", ""}, {"", "", ""}, {"abc"}, {"ab", "c"}, {"a", "bc"}, {"a", "b", "c"}, {"", "abc"}, {"abc", ""}, {"ab", "", "c"}, {"c", "ab"}, {"cba"}, {"\x00\x00"}, {"\x00"}, {"a\x00\x01b"}, {"a", "b"}} {
		got := kdf.Key(mixedWord(), info...)
		if got != wantedKey(t, mixedWord(), info...) {
			t.Errorf("P3.1: Key of %q: %x", info, got)
		}
		if other, ok := seen[got]; ok {
			t.Errorf("P3.1: %q and %q make one key", info, other)
		}
		seen[got] = info
	}
}

func TestKeyTellsBytesNotRunes(t *testing.T) {
	for _, text := range []string{"é", "\xff\xfe", "日本", "a\x00b", strings.Repeat("é", 200)} {
		if got := kdf.Key(mixedWord(), text); got != wantedKey(t, mixedWord(), text) {
			t.Errorf("P3.1: Key of %q: %x", text, got)
		}
	}
}

func TestKeyOfTextsOfManyLengths(t *testing.T) {
	for _, n := range []int{1, 127, 128, 254, 255, 256, 257, 511, 512, 65534, 65535, 65536, 65537, 65791, 65792, 131071, 131072, 131077, 1<<24 + 3} {
		text := string(mixed(n))
		if got := kdf.Key(mixedWord(), text, "x"); got != wantedKey(t, mixedWord(), text, "x") {
			t.Errorf("P3.1: Key of a text of %d bytes: %x", n, got)
		}
	}
}

// Of a length but the lowest 16 bits are told: 65,536 bytes are told as none are.
func TestTheLengthOfALongTextIsTakenByItsLowestBits(t *testing.T) {
	tail := string(mixed(65534))
	if kdf.Key(mixedWord(), "\xff\xfe"+tail) != kdf.Key(mixedWord(), "", tail) {
		t.Error("P3.1: Key of a text of 65,536 bytes")
	}
}

func TestKeysHangOnTheirSecret(t *testing.T) {
	for i := range 32 {
		secret := mixedWord()
		secret[i] ^= 0x80
		if got := kdf.Key(secret, "x"); got != wantedKey(t, secret, "x") || got == kdf.Key(mixedWord(), "x") {
			t.Errorf("P3.1: Key with the byte %d of the secret: %x", i, got)
		}
	}
}

// row is bytes with spare room behind them; all of it can be looked at.
func row(n int) (all, b []byte) {
	all = mixed(n + 200)
	return all, all[:n]
}

func scribble(b []byte) {
	for i := range b {
		b[i] = 0xee
	}
}

func TestListsHandedInAreNotChanged(t *testing.T) {
	for _, n := range lengths() {
		allKey, key := row(n)
		allPart, part := row(n + 1)
		key0, part0 := bytes.Clone(allKey), bytes.Clone(allPart)
		kdf.Mac(key, part, nil, part)
		kdf.Mac(key, key, part)
		kdf.Extract(key, part)
		kdf.Extract(part, key)
		expanded(t, mixedWord(), part, 100)
		kdf.Expand(mixedWord(), part, 8161)
		if !bytes.Equal(allKey, key0) || !bytes.Equal(allPart, part0) {
			t.Errorf("R4: a list of %d bytes that was handed in was changed", n)
		}
	}
}

func TestListsOfPartsKeepTheirSpareRoom(t *testing.T) {
	parts := [][]byte{[]byte("a"), []byte("b"), []byte("c"), []byte("d")}
	info := []string{"a", "b", "c", "d"}
	kdf.Mac([]byte("key"), parts[:2]...)
	kdf.Key(mixedWord(), info[:2]...)
	for i, want := range []string{"a", "b", "c", "d"} {
		if string(parts[i]) != want || info[i] != want {
			t.Errorf("R4: part %d is %q now, text %d is %q", i, parts[i], i, info[i])
		}
	}
}

func TestWhatIsAnsweredIsNewMemory(t *testing.T) {
	key := mixedWord()
	for _, n := range []int{1, 31, 32, 33, 100, 8160} {
		all, info := row(40)
		before := bytes.Clone(all)
		want := wantedExpand(t, key, info, n)
		first, second := expanded(t, key, info, n), expanded(t, key, info, n)
		scribble(first[:cap(first)])
		if !bytes.Equal(second, want) {
			t.Errorf("R4: two answers of Expand(%d) share memory", n)
		}
		if !bytes.Equal(all, before) {
			t.Errorf("R4: Expand(%d) answers what was handed in", n)
		}
		scribble(all)
		if !bytes.Equal(second, want) {
			t.Errorf("R4: Expand(%d) shares memory with what was handed in", n)
		}
		if got := expanded(t, key, before[:40], n); !bytes.Equal(got, want) {
			t.Errorf("R4, R5: Expand(%d) hangs on what was done with an earlier answer", n)
		}
	}
}

func TestAnswersHangOnArgumentsAlone(t *testing.T) {
	b := []byte("bytes")
	mac, extract, made := kdf.Mac(b, b), kdf.Extract(b, b), kdf.Key(mixedWord(), "x")
	want := [3]api.Word{mac, extract, made}
	scribble(mac[:])
	scribble(extract[:])
	scribble(made[:])
	kdf.Mac(mixed(100), mixed(100))
	kdf.Expand(mixedWord(), b, -1)
	if [3]api.Word{kdf.Mac(b, b), kdf.Extract(b, b), kdf.Key(mixedWord(), "x")} != want {
		t.Error("R5: an answer hangs on what was called ahead of it")
	}
}
