package chacha_test

import (
	"bytes"
	"encoding/binary"
	"encoding/hex"
	"math"
	"strings"
	"testing"

	"bandbox/api"
	"bandbox/chacha"
)

const (
	lastCount = math.MaxUint32
	zeros     = "0000000000000000000000000000000000000000000000000000000000000000"
	rising    = "000102030405060708090a0b0c0d0e0f101112131415161718191a1b1c1d1e1f"
	unlikeKey = "c9ee13385d82a7ccf1163b6085aacff4193e6388add2f71c41668bb0d5fa1f44" // no two bytes alike
	unlikeOne = "116ac31c75ce2780d9328be4"                                         // nor here
)

func unhex(t *testing.T, s string) []byte {
	t.Helper()
	b, err := hex.DecodeString(s)
	if err != nil {
		t.Fatal(err)
	}
	return b
}

func keyOf(t *testing.T, s string) api.Word {
	t.Helper()
	return api.Word(unhex(t, s))
}

func nonceOf(t *testing.T, s string) [12]byte {
	t.Helper()
	return [12]byte(unhex(t, s))
}

// unlike is a key and a nonce whose bytes all differ.
func unlike(t *testing.T) (api.Word, [12]byte) {
	t.Helper()
	return keyOf(t, unlikeKey), nonceOf(t, unlikeOne)
}

// mixed is n bytes of which no two blocks are alike.
func mixed(n int) []byte {
	b := make([]byte, n)
	for i := range b {
		b[i] = byte(i*7 + i>>6*31 + 1)
	}
	return b
}

// plus adds as RFC 8439 says it: modulo 2^32.
func plus(a, b uint64) uint64 { return (a + b) % (1 << 32) }

func rolled(v uint64, n int) uint64 { return v<<n%(1<<32) + v>>(32-n) }

// wantedQuarter reckons in numbers of 64 bits, so that none of its wraps is the machine's.
func wantedQuarter(s [4]uint32) [4]uint32 {
	a, b, c, d := uint64(s[0]), uint64(s[1]), uint64(s[2]), uint64(s[3])
	for _, turn := range [2][2]int{{16, 12}, {8, 7}} {
		a = plus(a, b)
		d = rolled(d^a, turn[0])
		c = plus(c, d)
		b = rolled(b^c, turn[1])
	}
	return [4]uint32{uint32(a), uint32(b), uint32(c), uint32(d)}
}

// wantedBlock has each quarter round's places written out as RFC 8439 has them.
func wantedBlock(key api.Word, count uint32, nonce [12]byte) [64]byte {
	row := []byte("expa" + "nd 3" + "2-by" + "te k")
	row = append(row, key[:]...)
	row = binary.LittleEndian.AppendUint32(row, count)
	row = append(row, nonce[:]...)
	var s, first [16]uint32
	for i := range s {
		s[i] = binary.LittleEndian.Uint32(row[4*i:])
	}
	first = s
	for range 10 {
		for _, at := range [8][4]int{{0, 4, 8, 12}, {1, 5, 9, 13}, {2, 6, 10, 14}, {3, 7, 11, 15}, {0, 5, 10, 15}, {1, 6, 11, 12}, {2, 7, 8, 13}, {3, 4, 9, 14}} {
			q := wantedQuarter([4]uint32{s[at[0]], s[at[1]], s[at[2]], s[at[3]]})
			for i, v := range q {
				s[at[i]] = v
			}
		}
	}
	var out [64]byte
	for i := range s {
		binary.LittleEndian.PutUint32(out[4*i:], s[i]+first[i])
	}
	return out
}

func wantedXor(key api.Word, count uint32, nonce [12]byte, b []byte) []byte {
	out := bytes.Clone(b)
	for i := range out {
		if i%64 == 0 {
			stream := wantedBlock(key, count+uint32(i/64), nonce)
			for j := i; j < len(out) && j < i+64; j++ {
				out[j] ^= stream[j-i]
			}
		}
	}
	return out
}

func quarter(s [4]uint32) [4]uint32 {
	a, b, c, d := chacha.Quarter(s[0], s[1], s[2], s[3])
	return [4]uint32{a, b, c, d}
}

// xored is Xor where it is not refused.
func xored(t *testing.T, key api.Word, count uint32, nonce [12]byte, b []byte) []byte {
	t.Helper()
	out, e := chacha.Xor(key, count, nonce, b)
	if e != api.OK || len(out) != len(b) {
		t.Fatalf("P4.1: Xor of %d bytes at %d: %d bytes, %d", len(b), count, len(out), e)
	}
	return out
}

func refused(t *testing.T, count uint32, n int) {
	t.Helper()
	key, nonce := unlike(t)
	if out, e := chacha.Xor(key, count, nonce, mixed(n)); e != api.EARG || len(out) != 0 || cap(out) != 0 {
		t.Errorf("P4.1, R2: Xor of %d bytes at %d: %d bytes, %d", n, count, len(out), e)
	}
}

func TestTheChaptersExample(t *testing.T) {
	got := chacha.Block(api.Word{}, 0, [12]byte{})
	if !bytes.HasPrefix(got[:], []byte{0x76, 0xb8, 0xe0, 0xad}) {
		t.Errorf("P4.1: Block of noughts: %x", got)
	}
}

// RFC 8439 has the first two in 2.1.1 and 2.2.1.
func TestKnownQuarters(t *testing.T) {
	for _, c := range [][2][4]uint32{
		{{0x11111111, 0x01020304, 0x9b8d6f43, 0x01234567}, {0xea2a92f4, 0xcb1cf8ce, 0x4581472e, 0x5881c4bb}},
		{{0x516461b1, 0x2a5f714c, 0x53372767, 0x3d631689}, {0xbdb886dc, 0xcfacafd2, 0xe46bea80, 0xccc07c79}},
		{{}, {}},
		{{1, 0, 0, 0}, {0x10000001, 0x80808808, 0x01010110, 0x01000110}},
	} {
		if got := quarter(c[0]); got != c[1] {
			t.Errorf("P4.1: Quarter(%x) = %x", c[0], got)
		}
	}
}

func TestQuarterOfNumbersThatWrapRound(t *testing.T) {
	edges := []uint32{0, 1, 2, 0x7fffffff, 0x80000000, 0x80000001, 0xfffffffe, 0xffffffff, 0x0000ffff, 0xffff0000, 0x9b8d6f43}
	for _, a := range edges {
		for _, b := range edges {
			for _, c := range edges {
				for _, d := range edges {
					s := [4]uint32{a, b, c, d}
					if got := quarter(s); got != wantedQuarter(s) {
						t.Fatalf("P4.1: Quarter(%x) = %x", s, got)
					}
				}
			}
		}
	}
}

func TestQuarterOfEachBit(t *testing.T) {
	for i := range 128 {
		s := [4]uint32{0x516461b1, 0x2a5f714c, 0x53372767, 0x3d631689}
		s[i/32] ^= 1 << (i % 32)
		if got := quarter(s); got != wantedQuarter(s) {
			t.Errorf("P4.1: Quarter(%x) = %x", s, got)
		}
	}
}

type known struct {
	key   string
	count uint32
	nonce string
	want  string
}

func checkBlocks(t *testing.T, cases []known) {
	t.Helper()
	for i, c := range cases {
		got := chacha.Block(keyOf(t, c.key), c.count, nonceOf(t, c.nonce))
		if hex.EncodeToString(got[:]) != c.want {
			t.Errorf("P4.1: Block, number %d: %x", i, got)
		}
	}
}

// RFC 8439 has these in 2.3.2, 2.4.2 and A.1.
func TestKnownBlocks(t *testing.T) {
	checkBlocks(t, []known{
		{rising, 1, "000000090000004a00000000", "10f1e7e4d13b5915500fdd1fa32071c4c7d1f4c733c068030422aa9ac3d46c4ed2826446079faa0914c2d705d98b02a2b5129cd1de164eb9cbd083e8a2503c4e"},
		{rising, 1, "000000000000004a00000000", "224f51f3401bd9e12fde276fb8631ded8c131f823d2c06e27e4fcaec9ef3cf788a3b0aa372600a92b57974cded2b9334794cba40c63e34cdea212c4cf07d41b7"},
		{zeros, 0, zeros[:24], "76b8e0ada0f13d90405d6ae55386bd28bdd219b8a08ded1aa836efcc8b770dc7da41597c5157488d7724e03fb8d84a376a43b8f41518a11cc387b669b2ee6586"},
		{zeros, 1, zeros[:24], "9f07e7be5551387a98ba977c732d080dcb0f29a048e3656912c6533e32ee7aed29b721769ce64e43d57133b074d839d531ed1f28510afb45ace10a1f4b794d6f"},
		{zeros[:62] + "01", 1, zeros[:24], "3aeb5224ecf849929b9d828db1ced4dd832025e8018b8160b82284f3c949aa5a8eca00bbb4a73bdad192b5c42f73f2fd4e273644c8b36125a64addeb006c13a0"},
		{"00ff" + zeros[:60], 2, zeros[:24], "72d54dfbf12ec44b362692df94137f328fea8da73990265ec1bbbea1ae9af0ca13b25aa26cb4a648cb9b9d1be65b2c0924a66c54d545ec1b7374f4872e99f096"},
		{zeros, 0, zeros[:22] + "02", "c2c64d378cd536374ae204b9ef933fcd1a8b2288b3dfa49672ab765b54ee27c78a970e0e955c14f3a88e741b97c286f75f8fc299e8148362fa198a39531bed6d"},
	})
}

// What another ChaCha20 answered.
func TestBlocksOfUnlikeBytes(t *testing.T) {
	checkBlocks(t, []known{
		{unlikeKey, 0, unlikeOne, "98d67c690047eef40a990c683d61400ff2673b21acaa9f0c027566fcad9cba9deb524e127f04dbee70a91582a2fe0d817906db315b68c6176e2ceec5368b21fa"},
		{unlikeKey, 1, unlikeOne, "a4126b38b5efd84294c693261fafa2be5e2372af8b0b8ccd1582fb60897f2b1a058dace13f6f301ec97fbb6be93d019e513dc2a93947e60acea49f41a8b1c520"},
		{unlikeKey, 0x12345678, unlikeOne, "ec71dafdf7959fe93518da00a69d74b09306c60de6525fde27d8329d4e885d48cc1b20a0cecff7dd0a7db53b8de29afa88af4be37f226923f17cc9a0c0b25500"},
		{unlikeKey, 1 << 31, unlikeOne, "53eac1d0a56a4f54ff4978b03205fd7d8514493e18313ee3b8d7e5c7d3ca737aa71b9feb89de84b10f6942530a09bf3ff2918edfecf58c6dcb9a0a2bad773b18"},
		{unlikeKey, lastCount, unlikeOne, "adaed5db8d9578fd24be222ae328fbb44d66a30f4315fd1ef65260cc9cd5064bb909a8f298c2b814bc7d02b07e52a63d4662274e7c60dd52c5f945716d642872"},
	})
}

func TestBlockHangsOnEachBitOfKeyCountAndNonce(t *testing.T) {
	seen := map[[64]byte]int{}
	for i := -1; i < 384; i++ {
		key, nonce := unlike(t)
		count := uint32(0x01020304)
		switch {
		case i < 0: // as it is
		case i < 256:
			key[i/8] ^= 1 << (i % 8)
		case i < 288:
			count ^= 1 << (i - 256)
		default:
			nonce[(i-288)/8] ^= 1 << (i % 8)
		}
		got := chacha.Block(key, count, nonce)
		if got != wantedBlock(key, count, nonce) {
			t.Errorf("P4.1: Block with the bit %d turned: %x", i, got)
		}
		seen[got]++
	}
	if len(seen) != 385 {
		t.Errorf("P4.1: of 385 blocks %d are unlike", len(seen))
	}
}

// RFC 8439 has these in 2.4.2 and A.2.
func TestKnownStreams(t *testing.T) {
	const (
		sunscreen = "Ladies and Gentlemen of the class of '99: If I could offer you only one tip for the future, sunscreen would be it."
		toves     = "'Twas brillig, and the slithy toves\nDid gyre and gimble in the wabe:\nAll mimsy were the borogoves,\nAnd the mome raths outgrabe."
		letter    = "Any submission to the IETF intended by the Contributor for publication as all or part of an IETF Internet-Draft or RFC and any statement made within the context of an IETF activity is considered an \"IETF Contribution\". Such statements include oral statements in IETF sessions, as well as written and electronic communications made at any time or place, which are addressed to"
	)
	for i, c := range []struct {
		known
		text string
	}{
		{known{rising, 1, "000000000000004a00000000", "6e2e359a2568f98041ba0728dd0d6981e97e7aec1d4360c20a27afccfd9fae0bf91b65c5524733ab8f593dabcd62b3571639d624e65152ab8f530c359f0861d807ca0dbf500d6a6156a38e088a22b65e52bc514d16ccf806818ce91ab77937365af90bbf74a35be6b40b8eedf2785e42874d"}, sunscreen},
		{known{zeros, 0, zeros[:24], "76b8e0ada0f13d90405d6ae55386bd28bdd219b8a08ded1aa836efcc8b770dc7da41597c5157488d7724e03fb8d84a376a43b8f41518a11cc387b669b2ee6586"}, strings.Repeat("\x00", 64)},
		{known{zeros[:62] + "01", 1, zeros[:22] + "02", "a3fbf07df3fa2fde4f376ca23e82737041605d9f4f4f57bd8cff2c1d4b7955ec2a97948bd3722915c8f3d337f7d370050e9e96d647b7c39f56e031ca5eb6250d4042e02785ececfa4b4bb5e8ead0440e20b6e8db09d881a7c6132f420e52795042bdfa7773d8a9051447b3291ce1411c680465552aa6c405b7764d5e87bea85ad00f8449ed8f72d0d662ab052691ca66424bc86d2df80ea41f43abf937d3259dc4b2d0dfb48a6c9139ddd7f76966e928e635553ba76c5c879d7b35d49eb2e62b0871cdac638939e25e8a1e0ef9d5280fa8ca328b351c3c765989cbcf3daa8b6ccc3aaf9f3979c92b3720fc88dc95ed84a1be059c6499b9fda236e7e818b04b0bc39c1e876b193bfe5569753f88128cc08aaa9b63d1a16f80ef2554d7189c411f5869ca52c5b83fa36ff216b9c1d30062bebcfd2dc5bce0911934fda79a86f6e698ced759c3ff9b6477338f3da4f9cd8514ea9982ccafb341b2384dd902f3d1ab7ac61dd29c6f21ba5b862f3730e37cfdc4fd806c22f221"}, letter},
		{known{"1c9240a5eb55d38af333888604f6b5f0473917c1402b80099dca5cbc207075c0", 42, zeros[:22] + "02", "62e6347f95ed87a45ffae7426f27a1df5fb69110044c0d73118effa95b01e5cf166d3df2d721caf9b21e5fb14c616871fd84c54f9d65b283196c7fe4f60553ebf39c6402c42234e32a356b3e764312a61a5532055716ead6962568f87d3f3f7704c6a8d1bcd1bf4d50d6154b6da731b187b58dfd728afa36757a797ac188d1"}, toves},
	} {
		key, nonce := keyOf(t, c.key), nonceOf(t, c.nonce)
		got := xored(t, key, c.count, nonce, []byte(c.text))
		if hex.EncodeToString(got) != c.want {
			t.Errorf("P4.1: Xor, number %d: %x", i, got)
		}
		if back := xored(t, key, c.count, nonce, got); string(back) != c.text {
			t.Errorf("P4.1: Xor twice, number %d: %q", i, back)
		}
	}
}

// lengths are those on both sides of where a new block begins, and some far ahead.
func lengths() []int {
	all := []int{255, 256, 257, 1000, 4096, 16383, 16384, 16385, 65536, 100003}
	for n := range 200 {
		all = append(all, n)
	}
	return all
}

func TestXorOfEveryLength(t *testing.T) {
	key, nonce := unlike(t)
	for _, n := range lengths() {
		b := mixed(n)
		got := xored(t, key, 7, nonce, b)
		if !bytes.Equal(got, wantedXor(key, 7, nonce, b)) {
			t.Errorf("P4.1: Xor of %d bytes", n)
		}
		if !bytes.Equal(xored(t, key, 7, nonce, got), b) {
			t.Errorf("P4.1: Xor twice of %d bytes", n)
		}
	}
}

func TestXorOfNoBytes(t *testing.T) {
	key, nonce := unlike(t)
	for _, count := range []uint32{0, 1, 1 << 31, lastCount - 1, lastCount} {
		for i, b := range [][]byte{nil, {}, mixed(5)[:0]} {
			if got, e := chacha.Xor(key, count, nonce, b); len(got) != 0 || e != api.OK {
				t.Errorf("P4.1, R4: Xor of nothing, number %d, at %d: %x, %d", i, count, got, e)
			}
		}
	}
}

func TestTheStreamIsBlocksFromTheCountOn(t *testing.T) {
	key, nonce := unlike(t)
	for _, count := range []uint32{0, 1, 254, 255, 65534, 1<<24 - 2, 1<<31 - 2, 1<<31 - 1, 1 << 31, lastCount - 4} {
		stream := xored(t, key, count, nonce, make([]byte, 5*64))
		for i := range uint32(5) {
			want := chacha.Block(key, count+i, nonce)
			if !bytes.Equal(stream[64*i:64*i+64], want[:]) {
				t.Errorf("P4.1: the block %d of Xor at %d", i, count)
			}
		}
	}
}

func TestALaterPieceIsXorAtALaterCount(t *testing.T) {
	key, nonce := unlike(t)
	b := mixed(1000)
	whole := xored(t, key, 3, nonce, b)
	for i := 0; 64*i < len(b); i++ {
		if !bytes.Equal(xored(t, key, 3+uint32(i), nonce, b[64*i:]), whole[64*i:]) {
			t.Errorf("P4.1: Xor from the block %d on", i)
		}
		if !bytes.Equal(xored(t, key, 3, nonce, b[:64*i+1]), whole[:64*i+1]) {
			t.Errorf("P4.1: Xor of %d bytes is not the beginning of Xor of more", 64*i+1)
		}
	}
}

func TestXorUpToTheLastCount(t *testing.T) {
	key, nonce := unlike(t)
	for _, blocks := range []int{1, 2, 3, 4, 100, 1024, 1025} {
		count := uint32(lastCount - blocks + 1)
		for _, n := range []int{1, 64*blocks - 64, 64*blocks - 63, 64*blocks - 1, 64 * blocks} {
			b := mixed(n)
			if !bytes.Equal(xored(t, key, count, nonce, b), wantedXor(key, count, nonce, b)) {
				t.Errorf("P4.1: Xor of %d bytes at %d", n, count)
			}
		}
		for _, n := range []int{64*blocks + 1, 64*blocks + 2, 64*blocks + 63, 64*blocks + 64, 64*blocks + 65, 64*blocks + 1<<17} {
			refused(t, count, n)
		}
	}
}

// A count of 2^31 and more is no negative number, and the blocks ahead of the last one wrap no count.
func TestHighCountsAreNotRefused(t *testing.T) {
	key, nonce := unlike(t)
	b := mixed(300)
	for _, count := range []uint32{1<<31 - 1, 1 << 31, 1<<31 + 1, 3 << 30, lastCount - 1000} {
		if !bytes.Equal(xored(t, key, count, nonce, b), wantedXor(key, count, nonce, b)) {
			t.Errorf("P4.1: Xor at %d", count)
		}
	}
}

// row is bytes with spare room behind them; all of it can be looked at.
func row(n int) (all, b []byte) {
	all = mixed(n + 200)
	return all, all[:n]
}

func scribble(b []byte) {
	for i := range b {
		b[i] = 0xee
	}
}

func TestListsHandedInAreNotChanged(t *testing.T) {
	key, nonce := unlike(t)
	for _, count := range []uint32{0, lastCount} {
		for _, n := range []int{0, 1, 63, 64, 65, 128, 1000} {
			all, b := row(n)
			before := bytes.Clone(all)
			chacha.Xor(key, count, nonce, b)
			if !bytes.Equal(all, before) {
				t.Errorf("R4: Xor changed what was handed in, %d bytes at %d", n, count)
			}
		}
	}
}

func TestWhatIsAnsweredIsNewMemory(t *testing.T) {
	key, nonce := unlike(t)
	for _, n := range []int{0, 1, 63, 64, 65, 128, 1000} {
		all, b := row(n)
		before := bytes.Clone(all)
		want := wantedXor(key, 1, nonce, b)
		first, second := xored(t, key, 1, nonce, b), xored(t, key, 1, nonce, b)
		scribble(first[:cap(first)])
		if !bytes.Equal(second, want) {
			t.Errorf("R4: two answers of Xor of %d bytes share memory", n)
		}
		if !bytes.Equal(all, before) {
			t.Errorf("R4: Xor of %d bytes answers what was handed in", n)
		}
		scribble(all)
		if !bytes.Equal(second, want) {
			t.Errorf("R4: Xor of %d bytes shares memory with what was handed in", n)
		}
	}
}

func TestAnswersHangOnArgumentsAlone(t *testing.T) {
	key, nonce := unlike(t)
	b := mixed(200)
	block, stream := chacha.Block(key, 9, nonce), xored(t, key, 9, nonce, b)
	kept := bytes.Clone(stream)
	scribble(stream[:cap(stream)])
	chacha.Block(api.Word{}, lastCount, [12]byte{})
	chacha.Xor(key, lastCount, nonce, b)
	if chacha.Block(key, 9, nonce) != block || !bytes.Equal(xored(t, key, 9, nonce, b), kept) {
		t.Error("R5: an answer hangs on what was called ahead of it")
	}
	if k, n := unlike(t); k != key || n != nonce {
		t.Error("R4: a key or a nonce was changed")
	}
}
