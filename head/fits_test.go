package head_test

import (
	"math"
	"testing"

	"bandbox/api"
	"bandbox/chain"
	"bandbox/head"
	"bandbox/vec"
)

// chained is a chain of so many records of a device, by the n-th one.
func chained(t *testing.T, n, dev, many int) *chain.Chain {
	t.Helper()
	c := chain.New(dev, public(n))
	for i := range many {
		r, e := chain.Make(seed(n), dev, int64(i+1), c.Tip(), []byte{byte(i)})
		if e != api.OK || c.Add(r) != api.OK {
			t.Fatalf("the test makes no chain: %d", e)
		}
	}
	return c
}

// sums are the sums of a chain's records: of the number i at i.
func sums(c *chain.Chain) []api.Word {
	out := []api.Word{{}}
	for i := range c.Len() {
		s, _ := c.Sum(i + 1)
		out = append(out, s)
	}
	return out
}

// fitting is, reckoned in another way, what Fits is to answer, where those are the chain's sums.
func fitting(h head.Head, dev int, sums []api.Word) bool {
	for i := range 8 {
		if i != dev {
			continue
		}
		for seq := 1; seq < len(sums); seq++ {
			if h.Vec[i] == int64(seq) {
				return h.Tips[i] == sums[seq]
			}
		}
		return h.Vec[i] >= 0
	}
	return false
}

// fits fails where Fits tells something else, or the chain is another one behind it.
func fits(t *testing.T, what string, h head.Head, dev int, c *chain.Chain, want bool) {
	t.Helper()
	before := sums(c)
	if fitting(h, dev, before) != want {
		t.Fatalf("the test reckons %s wrongly: %d of %v with %d", what, dev, h, c.Len())
	}
	if got := head.Fits(h, dev, c); got != want {
		t.Errorf("P20.1: Fits, %s: %v, of %d of %v with %d", what, got, dev, h, c.Len())
	}
	after := sums(c)
	if len(after) != len(before) || c.Tip() != before[len(before)-1] {
		t.Fatalf("R4: Fits turned the chain: %d, not %d", len(after), len(before))
	}
	for i, s := range before {
		r, ok := c.At(int64(i))
		if after[i] != s || ok != (i > 0) || ok && chain.Sum(r) != s {
			t.Errorf("R4: Fits turned number %d of the chain", i)
		}
	}
}

// of is a head with that number and Tip of a device, and others of all others.
func of(dev int, n int64, tip api.Word) head.Head {
	h := plain(6, vec.Vec{1, 2, 3, 4, 5, 6, 7, 8})
	h.Vec[dev], h.Tips[dev] = n, tip
	return h
}

func TestFitsOfEachNumber(t *testing.T) {
	for _, many := range []int{0, 1, 2, 5} {
		for dev := range 8 {
			c := chained(t, 1, dev, many)
			s := sums(c)
			tips := append([]api.Word{{}, {1}, {31: 0x80}}, s...)
			for n := int64(-2); n <= int64(many+2); n++ {
				for _, tip := range tips {
					there := n >= 1 && n <= int64(many)
					fits(t, "each number with each Tip", of(dev, n, tip), dev, c, n >= 0 && (!there || tip == s[max(n, 0)]))
				}
			}
			for _, n := range []int64{int64(many + 1), 127, 128, 1 << 32, 1<<32 + 1, most - 1, most, most + 1, math.MaxInt64} {
				fits(t, "above Len, Tip zero", of(dev, n, api.Word{}), dev, c, true)
				fits(t, "above Len, any Tip", of(dev, n, api.Word{9}), dev, c, true)
				fits(t, "above Len, the last one's sum", of(dev, n, c.Tip()), dev, c, true)
			}
			for _, n := range []int64{-1, -2, -1 << 32, 1 - 1<<32, math.MinInt64, math.MinInt64 + 1} {
				fits(t, "below 0, Tip zero", of(dev, n, api.Word{}), dev, c, false)
				fits(t, "below 0, any Tip", of(dev, n, api.Word{9}), dev, c, false)
				fits(t, "below 0, the last one's sum", of(dev, n, c.Tip()), dev, c, false)
			}
		}
	}
}

func TestFitsWithEachBitOfATipTurned(t *testing.T) {
	c := chained(t, 1, 3, 4)
	for n, s := range sums(c)[1:] {
		h := of(3, int64(n+1), s)
		fits(t, "the right Tip", h, 3, c, true)
		for i := range 256 {
			x := h
			x.Tips[3][i/8] ^= 1 << (i % 8)
			fits(t, "a Tip turned in one bit", x, 3, c, false)
		}
	}
}

func TestFitsOfDevices(t *testing.T) {
	c := chained(t, 1, 3, 3)
	right := of(3, 2, sums(c)[2])
	wrong := of(3, 2, sums(c)[1])
	for _, dev := range devs() {
		if dev < 0 || dev > 7 {
			fits(t, "a dev that is none", right, dev, c, false)
			fits(t, "a dev that is none, of no head", head.Head{}, dev, c, false)
			fits(t, "a dev that is none, with no chain", right, dev, chain.New(3, public(1)), false)
			fits(t, "a dev that is none, with a chain of it", right, dev, chain.New(dev, public(1)), false)
		}
	}
	fits(t, "the chain's own device", right, 3, c, true)
	fits(t, "the chain's own device, wrong", wrong, 3, c, false)
	for dev := range 8 {
		if dev == 3 {
			continue
		}
		// The chain is another device's: its numbers are held against dev's all the same.
		fits(t, "another device", of(dev, 2, sums(c)[2]), dev, c, true)
		fits(t, "another device, wrong", of(dev, 2, sums(c)[3]), dev, c, false)
		fits(t, "another device, where the chain's own is right", with(right, func(h *head.Head) { h.Vec[dev], h.Tips[dev] = 1, api.Word{} }), dev, c, false)
		fits(t, "a chain of a device that is none", of(dev, 1, api.Word{}), dev, chain.New(8, public(1)), true)
	}
}

// Fits looks at dev's number and Tip alone.
func TestFitsLooksAtOneDeviceAlone(t *testing.T) {
	c := chained(t, 1, 3, 3)
	s := sums(c)
	for _, n := range []int64{-1, 0, 1, 2, 3, 4} {
		for _, tip := range append(s, api.Word{1}) {
			h := of(3, n, tip)
			want := fitting(h, 3, s)
			for _, dev := range devs() {
				fits(t, "any Dev", with(h, func(h *head.Head) { h.Dev = dev }), 3, c, want)
			}
			for i := range 8 {
				if i == 3 {
					continue
				}
				for _, other := range []int64{-1, 0, 1, 2, 4, most + 1} {
					fits(t, "others of another device", with(h, func(h *head.Head) { h.Vec[i], h.Tips[i] = other, s[1] }), 3, c, want)
					fits(t, "others of another device", with(h, func(h *head.Head) { h.Vec[i], h.Tips[i] = other, api.Word{5} }), 3, c, want)
				}
			}
			fits(t, "nothing of others, no Sig", head.Head{Vec: vec.Vec{3: n}, Tips: [8]api.Word{3: tip}}, 3, c, want)
			fits(t, "any Sig", with(h, func(h *head.Head) { h.Sig[5] = 5 }), 3, c, want)
		}
	}
}

// A head fits a chain as it grows, and its own twin's chain no longer.
func TestFitsAlongAChain(t *testing.T) {
	var growing []*chain.Chain
	for many := range 13 {
		growing = append(growing, chained(t, 1, 2, many))
	}
	twin := chained(t, 1, 2, 6)
	r, e := chain.Make(seed(1), 2, 7, twin.Tip(), []byte("another one"))
	if e != api.OK || twin.Add(r) != api.OK {
		t.Fatalf("the test makes no twin: %d", e)
	}
	for n, s := range sums(growing[12]) {
		h, e := head.Make(seed(1), 2, vec.Vec{2: int64(n)}, [8]api.Word{2: s})
		if e != api.OK {
			t.Errorf("P20.1: Make: %d", e)
		}
		for _, c := range growing {
			fits(t, "a chain as it grows", h, 2, c, true)
		}
		fits(t, "a twin", h, 2, twin, n != 7)
	}
}
