package head_test

import (
	"bytes"
	"testing"

	"bandbox/api"
	"bandbox/head"
	"bandbox/sig"
	"bandbox/vec"
	"bandbox/wire"
)

// good fails where Good tells something else of h, where Make, Check or Put take what may not be, or do not take what may.
func good(t *testing.T, what string, h head.Head, want bool) {
	t.Helper()
	if mayBe(h) != want {
		t.Fatalf("the test reckons %s wrongly: %v", what, h)
	}
	if got := head.Good(h); got != want {
		t.Errorf("P20.1: Good, %s: %v of %v", what, got, h)
	}
	if got := len(head.Put(h)); got > 0 != want {
		t.Errorf("P20.1: Put, %s: %d bytes of %v", what, got, h)
	}
	making(t, what, 1, h)
	if !want {
		check(t, what, public(1), signed(1, h), false)
		check(t, what, public(1), h, false)
	}
}

// making fails where Make does not answer h with its Sig by the n-th one, or takes what may not be.
func making(t *testing.T, what string, n int, h head.Head) {
	t.Helper()
	got, e := head.Make(seed(n), h.Dev, h.Vec, h.Tips)
	if !mayBe(h) {
		if e != api.EARG {
			t.Errorf("P20.1: Make, %s: %d of %v", what, e, h)
		}
		if got != (head.Head{}) {
			t.Errorf("R2: Make, %s: %d, and %v", what, e, got)
		}
		return
	}
	if want := signed(n, h); e != api.OK || got != want {
		t.Errorf("P20.1: Make, %s: %v, %d, not %v", what, got, e, want)
	}
}

// check fails where Check tells something else.
func check(t *testing.T, what string, public api.Word, h head.Head, want bool) {
	t.Helper()
	if got := head.Check(public, h); got != want {
		t.Errorf("P20.1: Check, %s: %v of %v", what, got, h)
	}
}

func TestGood(t *testing.T) {
	counts := map[bool]int{}
	for _, h := range all() {
		counts[mayBe(h)]++
		good(t, "one at the edges", h, mayBe(h))
	}
	if counts[true] < 100 || counts[false] < 100 {
		t.Errorf("the test is no test: %v", counts)
	}
}

func TestGoodOfDevices(t *testing.T) {
	for _, dev := range devs() {
		for _, h := range []head.Head{{}, one(), plain(0, vec.Vec{7: most})} {
			h.Dev = dev
			good(t, "another Dev", h, dev >= 0 && dev <= 7)
		}
	}
}

func TestGoodOfNumbers(t *testing.T) {
	for i := range 8 {
		for _, n := range edges() {
			for _, h := range []head.Head{{}, one(), plain(7, vec.Vec{1, 1, 1, 1, 1, 1, 1, 1})} {
				h.Vec[i], h.Tips[i] = n, api.Word{}
				good(t, "another number, its Tip zero", h, n >= 0 && n <= most)
				h.Tips[i] = api.Word{4: 4}
				good(t, "another number, its Tip not zero", h, n >= 1 && n <= most)
			}
		}
	}
}

// Two numbers that may not be are not weighed against each other.
func TestGoodOfTwoNumbers(t *testing.T) {
	for i := range 8 {
		for j := range i {
			h := head.Head{}
			h.Vec[i], h.Vec[j] = -1, 1
			good(t, "one below 0, one above", h, false)
			h.Vec[i], h.Vec[j] = 1, most+1
			good(t, "one past the greatest", h, false)
			h.Vec[i], h.Vec[j] = 0, 1
			h.Tips[i] = api.Word{1}
			good(t, "a Tip in another's place", h, false)
		}
	}
}

// Where the number is 0, each byte of the Tip is 0; elsewhere it may be any.
func TestGoodOfTips(t *testing.T) {
	for i := range 8 {
		good(t, "0, and a Tip of zero", head.Head{Dev: i}, true)
		one := head.Head{Dev: i}
		one.Vec[i] = 1
		good(t, "1, and a Tip of zero", one, true)
		for b := range 32 {
			h := head.Head{Dev: i}
			h.Tips[i][b] = 1 << (b % 8)
			good(t, "0, and a Tip", h, false)
			h.Vec[i] = 1
			good(t, "1, and a Tip", h, true)
		}
	}
}

// Good asks nothing of Sig.
func TestGoodOfSigs(t *testing.T) {
	for _, h := range []head.Head{{}, one(), plain(7, vec.Vec{most, 7: 1})} {
		good(t, "no Sig", with(h, func(h *head.Head) { h.Sig = api.Sig{} }), true)
		good(t, "its Sig", signed(0, h), true)
		for i := range 64 {
			good(t, "any Sig", with(h, func(h *head.Head) { h.Sig[i] = 0xff }), true)
		}
	}
}

// What is signed, by sig and wire alone.
func TestWhatMakeSigns(t *testing.T) {
	for n, h := range []head.Head{one(), {}, {Dev: 7}, plain(3, vec.Vec{most, 1, 2, 3, 4, 5, 6, 300})} {
		b := wire.Num(nil, int64(h.Dev))
		for _, v := range h.Vec {
			b = wire.Num(b, v)
		}
		for _, tip := range h.Tips {
			b = wire.Word(b, tip)
		}
		got, e := head.Make(seed(n), h.Dev, h.Vec, h.Tips)
		h.Sig = sig.Sign(seed(n), append([]byte("head"), b...))
		if e != api.OK || got != h {
			t.Errorf("P20.1: Make: %v, %d, not %v", got, e, h)
		}
		check(t, "signed by sig and wire", sig.Public(seed(n)), h, true)
		for _, mark := range []string{"", "Head", "hea", "heads", "record", "roster", "head\x00", "\x00head"} {
			h.Sig = sig.Sign(seed(n), []byte(mark), b)
			check(t, "behind other letters", sig.Public(seed(n)), h, false)
		}
		h.Sig = sig.Sign(seed(n), b, []byte("head"))
		check(t, "ahead of the letters", sig.Public(seed(n)), h, false)
	}
}

func TestWhatMakeMadeIsChecked(t *testing.T) {
	for i, h := range all() {
		if !mayBe(h) || i%2 > 0 {
			continue
		}
		n := i % 3
		h, e := head.Make(seed(n), h.Dev, h.Vec, h.Tips)
		if e != api.OK || !head.Good(h) {
			t.Errorf("P20.1: what Make made, %v, %d, is not Good", h, e)
		}
		check(t, "its own public key", public(n), h, true)
		check(t, "another's public key", public(n+1), h, false)
	}
}

func TestMakeOfAnySeed(t *testing.T) {
	for _, s := range []api.Word{{}, {1}, {31: 0xff}, api.Word(bytes.Repeat([]byte{0xff}, 32))} {
		h, e := head.Make(s, 1, vec.Vec{1}, [8]api.Word{{5}})
		if e != api.OK {
			t.Errorf("P20.1: Make: %d", e)
		}
		check(t, "a seed of any bytes", sig.Public(s), h, true)
		if _, e := head.Make(s, 1, vec.Vec{}, [8]api.Word{{5}}); e != api.EARG {
			t.Errorf("P20.1: Make of what may not be: %d", e)
		}
	}
}

// turns are all ways in which one field is another one.
func turns() map[string]func(h *head.Head) {
	out := map[string]func(h *head.Head){
		"Dev, one more":            func(h *head.Head) { h.Dev++ },
		"Dev, one less":            func(h *head.Head) { h.Dev-- },
		"Sig, zero":                func(h *head.Head) { h.Sig = api.Sig{} },
		"Sig, its halves turn":     func(h *head.Head) { copy(h.Sig[:], append(h.Sig[32:], h.Sig[:32]...)) },
		"two numbers":              func(h *head.Head) { h.Vec[0], h.Vec[2] = h.Vec[2], h.Vec[0] },
		"two Tips":                 func(h *head.Head) { h.Tips[0], h.Tips[2] = h.Tips[2], h.Tips[0] },
		"two numbers, their Tips":  func(h *head.Head) { h.Vec[0], h.Vec[1], h.Tips[0], h.Tips[1] = 0, 3, h.Tips[1], h.Tips[0] },
		"all Tips, where they may": func(h *head.Head) { *h = head.Head{Dev: h.Dev, Vec: h.Vec, Sig: h.Sig} },
	}
	name := func(what string, i int) string { return what + ", " + string(rune('A'+i)) }
	for i := range 8 {
		out[name("a number, one more", i)] = func(h *head.Head) { h.Vec[i]++ }
		out[name("a number, one less", i)] = func(h *head.Head) { h.Vec[i]-- }
		out[name("a number, far off", i)] = func(h *head.Head) { h.Vec[i] ^= 1 << 32 }
		out[name("a Tip, first bit", i)] = func(h *head.Head) { h.Tips[i][0] ^= 1 }
		out[name("a Tip, last bit", i)] = func(h *head.Head) { h.Tips[i][31] ^= 0x80 }
		out[name("a Tip, a bit within", i)] = func(h *head.Head) { h.Tips[i][i+8] ^= 8 }
	}
	for i := range 32 {
		out[name("Sig, first half", i)] = func(h *head.Head) { h.Sig[i] ^= 1 << (i % 8) }
		out[name("Sig, second half", i)] = func(h *head.Head) { h.Sig[32+i] ^= 0x80 >> (i % 8) }
	}
	return out
}

func TestCheckWithEachFieldTurned(t *testing.T) {
	for _, h := range []head.Head{one(), signed(1, plain(4, vec.Vec{1, 2, 3, 4, 5, 6, 7, 8}))} {
		check(t, "as it was signed", public(1), h, true)
		for what, turn := range turns() {
			check(t, what, public(1), with(h, turn), false)
		}
		check(t, "as it was signed, again", public(1), h, true)
	}
}

func TestCheckOfOtherKeys(t *testing.T) {
	h := one()
	for n := range 5 {
		check(t, "each one's key", public(n), h, n == 1)
	}
	check(t, "a key that is no point", noPoint(t), h, false)
	check(t, "its seed in place of its key", seed(1), h, false)
	check(t, "no key", api.Word{}, h, false)
	for i := range 32 {
		key := public(1)
		key[i] ^= 1 << (i % 8)
		check(t, "a key with one bit another", key, h, false)
	}
	check(t, "another Sig by the same one", public(1), otherwise(t, 1, h), true)
	check(t, "another Sig by the same one, with another's key", public(2), otherwise(t, 1, h), false)
}

// L is what Sig's second half is below: with it on top a Sig is none.
func TestCheckOfASigThatIsTooGreat(t *testing.T) {
	h := one()
	order := []byte{0xed, 0xd3, 0xf5, 0x5c, 0x1a, 0x63, 0x12, 0x58, 0xd6, 0x9c, 0xf7, 0xa2, 0xde, 0xf9, 0xde, 0x14, 31: 0x10}
	carry := 0
	for i, c := range order {
		carry += int(c) + int(h.Sig[32+i])
		h.Sig[32+i] = byte(carry)
		carry >>= 8
	}
	check(t, "a second half with L on top", public(1), h, false)
}
