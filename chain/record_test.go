package chain_test

import (
	"math"
	"testing"

	"bandbox/api"
	"bandbox/chain"
	"bandbox/sig"
	"bandbox/wire"
)

// good fails where Good tells something else of r, where Make, Put or Add take what may not be, or do not take what may.
func good(t *testing.T, what string, r chain.Record, want bool) {
	t.Helper()
	if mayBe(r) != want {
		t.Fatalf("the test reckons %s wrongly: %v", what, short(r))
	}
	if got := chain.Good(r); got != want {
		t.Errorf("P19.1: Good, %s: %v of %v", what, got, short(r))
	}
	if got := len(chain.Put(r)); got > 0 != want {
		t.Errorf("P19.1: Put, %s: %d bytes of %v", what, got, short(r))
	}
	making(t, what, 1, r)
	if !want {
		check(t, what, public(1), signed(1, r), false)
		if e := chain.New(r.Dev, public(1)).Add(signed(1, r)); e != api.EARG {
			t.Errorf("P19.1: Add, %s: %d of %v", what, e, short(r))
		}
	}
}

// making fails where Make does not answer r with its Sig by the n-th one, or takes what may not be.
func making(t *testing.T, what string, n int, r chain.Record) {
	t.Helper()
	got, e := chain.Make(seed(n), r.Dev, r.Seq, r.Prev, r.Body)
	if !mayBe(r) {
		if e != api.EARG {
			t.Errorf("P19.1: Make, %s: %d of %v", what, e, short(r))
		}
		if !alike(got, chain.Record{}) {
			t.Errorf("R2: Make, %s: %d, and %v", what, e, short(got))
		}
		return
	}
	if want := signed(n, r); e != api.OK || !alike(got, want) {
		t.Errorf("P19.1: Make, %s: %v, %d, not %v", what, short(got), e, short(want))
	}
}

// check fails where Check tells something else.
func check(t *testing.T, what string, public api.Word, r chain.Record, want bool) {
	t.Helper()
	if got := chain.Check(public, r); got != want {
		t.Errorf("P19.1: Check, %s: %v of %v", what, got, short(r))
	}
}

// short is a record with no more than the front of a long Body: to be told where a test fails.
func short(r chain.Record) chain.Record {
	r.Body = r.Body[:min(len(r.Body), 20)]
	return r
}

func TestGood(t *testing.T) {
	for _, r := range some() {
		good(t, "one that may be", r, true)
	}
	for _, r := range none() {
		good(t, "one that may not be", r, false)
	}
}

func TestGoodOfDevices(t *testing.T) {
	for _, dev := range []int{-1, 0, 1, 2, 3, 4, 5, 6, 7, 8, 9, 255, 256, 1 << 32, math.MinInt, math.MinInt + 1, math.MaxInt} {
		for _, r := range []chain.Record{plain(dev, 1, api.Word{}, ""), plain(dev, 300, api.Word{1}, "x")} {
			good(t, "another Dev", r, dev >= 0 && dev <= 7)
		}
	}
}

func TestGoodOfNumbers(t *testing.T) {
	for _, seq := range []int64{-1, 0, 1, 2, 3, 127, 128, 1 << 31, 1 << 32, most - 1, most, most + 1, most + 2, 2 * most, math.MinInt64, math.MinInt64 + 1, math.MaxInt64} {
		for _, dev := range []int{0, 7} {
			good(t, "another Seq", plain(dev, seq, api.Word{}, "x"), seq >= 1 && seq <= most)
			good(t, "another Seq, and a Prev", plain(dev, seq, api.Word{8}, "x"), seq >= 2 && seq <= most)
		}
	}
}

// Of Seq 1 each byte of Prev is 0; of others it may be any.
func TestGoodOfPrevs(t *testing.T) {
	good(t, "Seq 1, Prev zero", plain(0, 1, api.Word{}, "x"), true)
	good(t, "Seq 2, Prev zero", plain(0, 2, api.Word{}, "x"), true)
	for i := range 32 {
		for _, c := range []byte{1, 0x80, 0xff} {
			prev := api.Word{}
			prev[i] = c
			good(t, "Seq 1, a Prev", plain(0, 1, prev, "x"), false)
			good(t, "Seq 2, a Prev", plain(0, 2, prev, "x"), true)
			good(t, "the last Seq, a Prev", plain(7, most, prev, "x"), true)
		}
	}
}

func TestGoodOfBodies(t *testing.T) {
	for _, r := range []chain.Record{plain(0, 1, api.Word{}, ""), plain(7, 2, api.Word{3}, "")} {
		good(t, "no Body", with(r, func(r *chain.Record) { r.Body = nil }), true)
		good(t, "an empty Body", with(r, func(r *chain.Record) { r.Body = []byte{} }), true)
		good(t, "a Body with spare room", with(r, func(r *chain.Record) { r.Body = make([]byte, 5, 20000) }), true)
		for _, n := range []int{0, 1, 2, 127, 128, 16382, 16383, 16384, 16385, 16386, 32768, 65536, 1 << 17} {
			good(t, "another Body", with(r, func(r *chain.Record) { r.Body = filled(n) }), n <= 16384)
			good(t, "a Body of noughts", with(r, func(r *chain.Record) { r.Body = make([]byte, n) }), n <= 16384)
		}
	}
	if api.MaxRecord != 16384 {
		t.Errorf("the test's limit is another one: %d", api.MaxRecord)
	}
}

// Good asks nothing of Sig.
func TestGoodOfSigs(t *testing.T) {
	for _, r := range []chain.Record{plain(0, 1, api.Word{}, "x"), plain(7, 2, api.Word{3}, "")} {
		good(t, "no Sig", r, true)
		good(t, "its Sig", signed(0, r), true)
		for i := range 64 {
			good(t, "any Sig", with(r, func(r *chain.Record) { r.Sig[i] = 0xff }), true)
		}
	}
}

// What is signed, by sig and wire alone.
func TestWhatMakeSigns(t *testing.T) {
	for n, r := range []chain.Record{plain(5, 300, api.Word{7}, "body"), plain(0, 1, api.Word{}, ""), plain(7, most, api.Word{31: 1}, allBytes())} {
		b := wire.Bytes(wire.Word(wire.Num(wire.Num(nil, int64(r.Dev)), r.Seq), r.Prev), r.Body)
		got, e := chain.Make(seed(n), r.Dev, r.Seq, r.Prev, r.Body)
		r.Sig = sig.Sign(seed(n), append([]byte("record"), b...))
		if e != api.OK || !alike(got, r) {
			t.Errorf("P19.1: Make: %v, %d, not %v", short(got), e, short(r))
		}
		check(t, "signed by sig and wire", sig.Public(seed(n)), r, true)
		for _, mark := range []string{"", "Record", "recor", "records", "head", "roster", "record\x00"} {
			r.Sig = sig.Sign(seed(n), []byte(mark), b)
			check(t, "behind other letters", sig.Public(seed(n)), r, false)
		}
		r.Sig = sig.Sign(seed(n), b, []byte("record"))
		check(t, "ahead of the letters", sig.Public(seed(n)), r, false)
	}
}

func TestWhatMakeMadeIsChecked(t *testing.T) {
	for i, r := range some() {
		n := i % 3
		r, e := chain.Make(seed(n), r.Dev, r.Seq, r.Prev, r.Body)
		if e != api.OK || !chain.Good(r) {
			t.Errorf("P19.1: what Make made, %v, %d, is not Good", short(r), e)
		}
		check(t, "its own public key", public(n), r, true)
		check(t, "another's public key", public(n+1), r, false)
	}
}

func TestMakeOfAnySeed(t *testing.T) {
	for _, s := range []api.Word{{}, {1}, {31: 0xff}, api.Word(filled(32))} {
		r, e := chain.Make(s, 1, 1, api.Word{}, []byte("x"))
		if e != api.OK {
			t.Errorf("P19.1: Make: %d", e)
		}
		check(t, "a seed of any bytes", sig.Public(s), r, true)
		if _, e := chain.Make(s, 1, 1, api.Word{1}, []byte("x")); e != api.EARG {
			t.Errorf("P19.1: Make of what may not be: %d", e)
		}
	}
}

// turns are all ways in which one field is another one.
func turns() map[string]func(r *chain.Record) {
	out := map[string]func(r *chain.Record){
		"Dev, one more":         func(r *chain.Record) { r.Dev++ },
		"Dev, one less":         func(r *chain.Record) { r.Dev-- },
		"Seq, one more":         func(r *chain.Record) { r.Seq++ },
		"Seq, one less":         func(r *chain.Record) { r.Seq-- },
		"Seq, far off":          func(r *chain.Record) { r.Seq += 1 << 32 },
		"Body, a byte more":     func(r *chain.Record) { r.Body = append(r.Body, 0) },
		"Body, a byte less":     func(r *chain.Record) { r.Body = r.Body[:len(r.Body)-1] },
		"Body, none":            func(r *chain.Record) { r.Body = nil },
		"Body, a byte ahead":    func(r *chain.Record) { r.Body = append([]byte{0}, r.Body...) },
		"Body, first bit":       func(r *chain.Record) { r.Body[0] ^= 1 },
		"Body, last bit":        func(r *chain.Record) { r.Body[len(r.Body)-1] ^= 0x80 },
		"Prev, zero":            func(r *chain.Record) { r.Prev = api.Word{} },
		"Sig, zero":             func(r *chain.Record) { r.Sig = api.Sig{} },
		"Sig, its halves turn":  func(r *chain.Record) { copy(r.Sig[:], append(r.Sig[32:], r.Sig[:32]...)) },
		"Prev and Body, a byte": func(r *chain.Record) { r.Prev[0], r.Body[0] = r.Body[0], r.Prev[0] },
	}
	for i := range 32 {
		out["Prev, byte "+string(rune('A'+i))] = func(r *chain.Record) { r.Prev[i] ^= 1 << (i % 8) }
		out["Sig, first half, byte "+string(rune('A'+i))] = func(r *chain.Record) { r.Sig[i] ^= 1 << (i % 8) }
		out["Sig, second half, byte "+string(rune('A'+i))] = func(r *chain.Record) { r.Sig[32+i] ^= 0x80 >> (i % 8) }
	}
	return out
}

func TestCheckWithEachFieldTurned(t *testing.T) {
	r := one()
	check(t, "as it was signed", public(1), r, true)
	for what, turn := range turns() {
		check(t, what, public(1), with(r, turn), false)
	}
	check(t, "as it was signed, again", public(1), r, true)
}

func TestCheckOfOtherKeys(t *testing.T) {
	r := one()
	for n := range 5 {
		check(t, "each one's key", public(n), r, n == 1)
	}
	check(t, "a key that is no point", noPoint(t), r, false)
	check(t, "its seed in place of its key", seed(1), r, false)
	check(t, "no key", api.Word{}, r, false)
	for i := range 32 {
		key := public(1)
		key[i] ^= 1 << (i % 8)
		check(t, "a key with one bit another", key, r, false)
	}
	check(t, "another Sig by the same one", public(1), otherwise(t, 1, r), true)
	check(t, "another Sig by the same one, with another's key", public(2), otherwise(t, 1, r), false)
}

// L is what Sig's second half is below: with it on top a Sig is none.
func TestCheckOfASigThatIsTooGreat(t *testing.T) {
	r := one()
	order := []byte{0xed, 0xd3, 0xf5, 0x5c, 0x1a, 0x63, 0x12, 0x58, 0xd6, 0x9c, 0xf7, 0xa2, 0xde, 0xf9, 0xde, 0x14, 31: 0x10}
	carry := 0
	for i, c := range order {
		carry += int(c) + int(r.Sig[32+i])
		r.Sig[32+i] = byte(carry)
		carry >>= 8
	}
	check(t, "a second half with L on top", public(1), r, false)
}

// same fails where Same tells something else, in either order.
func same(t *testing.T, what string, a, b chain.Record, want bool) {
	t.Helper()
	if got, other := chain.Same(a, b), chain.Same(b, a); got != want || other != want {
		t.Errorf("P19.1: Same, %s: %v, the other way round: %v, of %v and %v", what, got, other, short(a), short(b))
	}
}

func TestSame(t *testing.T) {
	for _, r := range append(some(), none()...) {
		same(t, "itself", r, r, true)
		same(t, "with a Body of its own", r, with(r, func(*chain.Record) {}), true)
		for what, turn := range turns() {
			if x := with(r, func(r *chain.Record) { r.Body = append(r.Body, "body"...) }); !alike(with(x, turn), x) {
				same(t, what, with(x, turn), x, false)
			}
		}
	}
	all := append(some(), none()...)
	for i, a := range all {
		for j, b := range all {
			same(t, "any two", a, b, i == j || alike(a, b))
		}
	}
}

// nil and an empty Body are one.
func TestSameOfNoBody(t *testing.T) {
	for _, a := range [][]byte{nil, {}, make([]byte, 0, 9)} {
		for _, b := range [][]byte{nil, {}, filled(9)[:0]} {
			same(t, "no Body", chain.Record{Seq: 1, Body: a}, chain.Record{Seq: 1, Body: b}, true)
			same(t, "no Body of one that may not be", chain.Record{Body: a}, chain.Record{Body: b}, true)
		}
		same(t, "no Body and one of a nought", chain.Record{Seq: 1, Body: a}, chain.Record{Seq: 1, Body: []byte{0}}, false)
	}
}

func TestASigIsPartOfARecord(t *testing.T) {
	r := one()
	x := otherwise(t, 1, r)
	same(t, "another Sig that is signed as well", x, r, false)
	if chain.Sum(x) == chain.Sum(r) {
		t.Errorf("P19.1: Sum: another Sig tells nothing")
	}
}
