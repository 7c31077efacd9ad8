package chain_test

import (
	"crypto/ed25519"
	"math"
	"testing"

	"bandbox/api"
	"bandbox/chain"
)

// line are records of a device, one behind the other, by the n-th one.
func line(n, dev, many int) []chain.Record {
	var out []chain.Record
	for i := range many {
		out = append(out, next(n, dev, out, string(filled(i%7))))
	}
	return out
}

// next is the record behind some.
func next(n, dev int, has []chain.Record, body string) chain.Record {
	if len(has) == 0 {
		return signed(n, plain(dev, 1, api.Word{}, body))
	}
	return behind(n, has[len(has)-1], body)
}

// paper is a chain, and what is to be in it, reckoned in another way.
type paper struct {
	c   *chain.Chain
	dev int
	n   int // whose key it is
	has []chain.Record
}

// begin is an empty chain of a device, by the key of the n-th one.
func begin(n, dev int) *paper { return &paper{c: chain.New(dev, public(n)), dev: dev, n: n} }

// of is a chain of those records.
func of(t *testing.T, n, dev int, records ...chain.Record) *paper {
	t.Helper()
	p := begin(n, dev)
	for _, r := range records {
		if e := p.c.Add(r); e != api.OK {
			t.Fatalf("P19.1: Add of %v: %d", short(r), e)
		}
		p.has = append(p.has, with(r, func(*chain.Record) {}))
	}
	p.holds(t, "records, one behind the other")
	return p
}

// tip is the last one's sum.
func (p *paper) tip() api.Word {
	if len(p.has) == 0 {
		return api.Word{}
	}
	return sum(p.has[len(p.has)-1])
}

// answer is what Add is to answer.
func (p *paper) answer(r chain.Record) api.Errno {
	if r.Dev != p.dev || !mayBe(r) {
		return api.EARG
	}
	key := public(p.n)
	if !ed25519.Verify(key[:], append([]byte("record"), text(r)...), r.Sig[:]) {
		return api.EAUTH
	}
	many := int64(len(p.has))
	if r.Seq <= many {
		if alike(p.has[r.Seq-1], r) {
			return api.OK
		}
		return api.EFORK
	}
	if r.Seq != many+1 {
		return api.EGAP
	}
	if r.Prev != p.tip() {
		return api.EFORK
	}
	return api.OK
}

// add fails where Add answers something else, or the chain does not hold what it is to hold behind it.
func (p *paper) add(t *testing.T, what string, r chain.Record, want api.Errno) {
	t.Helper()
	if e := p.answer(r); e != want {
		t.Fatalf("the test reckons %s wrongly: %d, not %d", what, e, want)
	}
	if e := p.c.Add(r); e != want {
		t.Errorf("P19.1: Add, %s: %d, not %d, of %v behind %d", what, e, want, short(r), len(p.has))
	}
	if want == api.OK && r.Seq > int64(len(p.has)) {
		p.has = append(p.has, with(r, func(*chain.Record) {}))
	}
	p.holds(t, what)
}

// holds fails where the chain tells something else.
func (p *paper) holds(t *testing.T, what string) {
	t.Helper()
	many := int64(len(p.has))
	if got := p.c.Len(); got != many {
		t.Errorf("P19.1: Len, %s: %d, not %d", what, got, many)
	}
	if got := p.c.Tip(); got != p.tip() {
		t.Errorf("P19.1: Tip, %s: %x, not %x", what, got, p.tip())
	}
	for i, r := range p.has {
		x, ok := p.c.At(int64(i + 1))
		if !ok || !alike(x, r) {
			t.Errorf("P19.1: At(%d), %s: %v, %v, not %v", i+1, what, short(x), ok, short(r))
		}
		if s, ok := p.c.Sum(int64(i + 1)); !ok || s != sum(r) {
			t.Errorf("P19.1: Sum(%d), %s: %x, %v, not %x", i+1, what, s, ok, sum(r))
		}
	}
	for _, seq := range []int64{0, -1, -2, -many, many + 1, many + 2, 1 << 32, 1<<32 + 1, most, most + 1, math.MinInt64, math.MinInt64 + 1, math.MaxInt64} {
		if seq >= 1 && seq <= many {
			continue
		}
		x, ok := p.c.At(seq)
		s, yes := p.c.Sum(seq)
		if ok || yes {
			t.Errorf("P19.1: At(%d), Sum, %s: %v, %v", seq, what, ok, yes)
		}
		if !alike(x, chain.Record{}) || s != (api.Word{}) {
			t.Errorf("R2: At(%d), Sum, %s: %v, %x", seq, what, short(x), s)
		}
	}
}

func TestTheChaptersExample(t *testing.T) {
	l := line(0, 2, 3)
	p := of(t, 0, 2, l[0])
	p.add(t, "Seq 3 behind Seq 1", l[2], api.EGAP)
	p.add(t, "Seq 2", l[1], api.OK)
	p.add(t, "Seq 3 behind Seq 2", l[2], api.OK)
}

func TestAnEmptyChain(t *testing.T) {
	for dev := range 8 {
		begin(0, dev).holds(t, "an empty chain")
		l := line(dev, dev, 2)
		p := begin(dev, dev)
		p.add(t, "Seq 2 with none there", l[1], api.EGAP)
		p.add(t, "the last Seq with none there", signed(dev, plain(dev, most, api.Word{}, "")), api.EGAP)
		p.add(t, "Seq 1 with none there", l[0], api.OK)
		p.add(t, "the same once more", l[0], api.OK)
	}
}

func TestManyRecords(t *testing.T) {
	p := begin(1, 4)
	l := line(1, 4, 300)
	for i, r := range l {
		if e := p.c.Add(r); e != api.OK || p.c.Len() != int64(i+1) || p.c.Tip() != sum(r) {
			t.Errorf("P19.1: Add of number %d: %d; Len %d", r.Seq, e, p.c.Len())
		}
		p.has = append(p.has, r)
	}
	p.holds(t, "many records")
	for _, i := range []int{0, 1, 126, 127, 128, 255, 256, 298, 299} {
		p.add(t, "one of many once more", l[i], api.OK)
		p.add(t, "another one of its number", with(signed(1, with(l[i], func(r *chain.Record) { r.Body = append(r.Body, 1) })), func(*chain.Record) {}), api.EFORK)
	}
	p.add(t, "behind many", next(1, 4, l, "more"), api.OK)
}

func TestLongBodies(t *testing.T) {
	p := begin(3, 0)
	for _, n := range []int{16384, 0, 16383, 1, 16384} {
		p.add(t, "a Body of a length", next(3, 0, p.has, string(filled(n))), api.OK)
		p.add(t, "a Body one past the limit", next(3, 0, p.has, string(filled(16385))), api.EARG)
	}
}

// EARG stands ahead of EAUTH: each with a Sig that is its own, and with none.
func TestAddOfWhatMayNotBe(t *testing.T) {
	for _, many := range []int{0, 1, 3} {
		p := of(t, 1, 5, line(1, 5, many)...)
		for _, r := range none() {
			p.add(t, "one that may not be", r, api.EARG)
			p.add(t, "one that may not be, not signed", with(r, func(r *chain.Record) { r.Sig = api.Sig{} }), api.EARG)
		}
		right := next(1, 5, p.has, "right")
		for dev := range 8 {
			r := signed(1, with(right, func(r *chain.Record) { r.Dev = dev }))
			if dev != 5 {
				p.add(t, "of another Dev", r, api.EARG)
				p.add(t, "of another Dev, not signed", with(r, func(r *chain.Record) { r.Sig[0]++ }), api.EARG)
				p.add(t, "of another Dev, signed by another one", signed(2, r), api.EARG)
			}
		}
		p.add(t, "the right one", right, api.OK)
	}
}

// A device's own record with another one's Dev is no fork: whatever stands at its number.
func TestAddOfAnothersRecord(t *testing.T) {
	p := of(t, 1, 5, line(1, 5, 3)...)
	for _, r := range append(line(1, 4, 4), line(2, 4, 4)...) {
		p.add(t, "another device's record", r, api.EARG)
	}
}

// EAUTH stands ahead of all that hangs on what is there.
func TestAddOfWhatIsNotSigned(t *testing.T) {
	for _, many := range []int{0, 1, 3} {
		p := of(t, 1, 5, line(1, 5, many)...)
		right := next(1, 5, p.has, "right")
		ways := map[string]chain.Record{
			"the next one":                  right,
			"one past a gap":                behind(1, right, "far"),
			"the last number":               signed(1, plain(5, most, api.Word{1}, "far")),
			"a Prev that is not Tip":        signed(1, plain(5, right.Seq+1, api.Word{1}, "")),
			"the first number, once more":   signed(1, plain(5, 1, api.Word{}, "another")),
			"the last one, with other Body": signed(1, with(right, func(r *chain.Record) { r.Seq, r.Prev = max(r.Seq-1, 1), api.Word{} })),
		}
		for i, r := range p.has {
			ways["one that is there, number "+string(rune('0'+i))] = r
		}
		for what, r := range ways {
			p.add(t, what+", by another one", signed(2, r), api.EAUTH)
			p.add(t, what+", not signed", with(r, func(r *chain.Record) { r.Sig = api.Sig{} }), api.EAUTH)
			p.add(t, what+", first half spoilt", with(r, func(r *chain.Record) { r.Sig[31] ^= 0x80 }), api.EAUTH)
			p.add(t, what+", second half spoilt", with(r, func(r *chain.Record) { r.Sig[32] ^= 1 }), api.EAUTH)
			p.add(t, what+", with another Body", with(r, func(r *chain.Record) { r.Body = append(r.Body, 0) }), api.EAUTH)
			p.add(t, what+", with the Sig of another", with(r, func(r *chain.Record) { r.Sig = one().Sig }), api.EAUTH)
		}
		p.add(t, "the right one", right, api.OK)
	}
}

func TestAddOfOneThatIsThere(t *testing.T) {
	p := of(t, 1, 5, line(1, 5, 4)...)
	for _, r := range p.has {
		p.add(t, "the same once more", r, api.OK)
		p.add(t, "the same, with a Body of its own", with(r, func(*chain.Record) {}), api.OK)
		p.add(t, "another Body", signed(1, with(r, func(r *chain.Record) { r.Body = append(r.Body, 'x') })), api.EFORK)
		p.add(t, "another Body, as long", signed(1, with(r, func(r *chain.Record) { r.Body = make([]byte, len(r.Body)+1) })), api.EFORK)
		p.add(t, "another Sig that is signed as well", otherwise(t, 1, r), api.EFORK)
		if r.Seq > 1 {
			p.add(t, "another Prev", signed(1, with(r, func(r *chain.Record) { r.Prev[31] ^= 1 })), api.EFORK)
			p.add(t, "Prev zero", signed(1, with(r, func(r *chain.Record) { r.Prev = api.Word{} })), api.EFORK)
			p.add(t, "Prev as Tip is", signed(1, with(r, func(r *chain.Record) { r.Prev = p.tip() })), api.EFORK)
		}
	}
	p.add(t, "the next one", next(1, 5, p.has, "more"), api.OK)
}

// One that is there with one field turned, and the Sig that it had, is neither the same nor signed.
func TestAddOfOneThatIsThereWithEachFieldTurned(t *testing.T) {
	p := begin(1, 5)
	for _, body := range []string{"one", "two", "three"} {
		p.add(t, "the next one", next(1, 5, p.has, body), api.OK)
	}
	for _, r := range p.has {
		for what, turn := range turns() {
			x := with(r, turn)
			if alike(x, r) {
				continue // its Prev was zero
			}
			want := api.EAUTH
			if x.Dev != 5 || !mayBe(x) {
				want = api.EARG
			}
			p.add(t, "one that is there, another "+what, x, want)
		}
	}
}

// nil and an empty Body are one: whichever of them is there.
func TestAddOfNoBody(t *testing.T) {
	for _, first := range [][]byte{nil, {}, make([]byte, 0, 9)} {
		for _, second := range [][]byte{nil, {}, filled(9)[:0]} {
			p := begin(1, 6)
			r := signed(1, plain(6, 1, api.Word{}, ""))
			r.Body = first
			p.add(t, "no Body", r, api.OK)
			r.Body = second
			p.add(t, "no Body, once more", r, api.OK)
			r = behind(1, r, "")
			r.Body = second
			p.add(t, "no Body, behind one", r, api.OK)
			r.Body = first
			p.add(t, "no Body, behind one, once more", r, api.OK)
		}
	}
}

func TestAddPastAGap(t *testing.T) {
	for _, many := range []int{0, 1, 2, 5} {
		p := of(t, 1, 5, line(1, 5, many)...)
		right := next(1, 5, p.has, "right")
		for _, seq := range []int64{right.Seq + 1, right.Seq + 2, right.Seq + 100, 1 << 32, 1<<32 + right.Seq, most - 1, most} {
			for _, prev := range []api.Word{{}, {1}, p.tip(), sum(right)} {
				p.add(t, "one past a gap", signed(1, plain(5, seq, prev, "far")), api.EGAP)
			}
		}
		p.add(t, "the next one", right, api.OK)
	}
}

func TestAddOfAPrevThatIsNotTip(t *testing.T) {
	for _, many := range []int{1, 2, 5} {
		p := of(t, 1, 5, line(1, 5, many)...)
		right := next(1, 5, p.has, "right")
		wrong := []api.Word{{}, {1}, sum(right), sum(one()), seed(1), public(1)}
		for _, r := range p.has[:many-1] {
			wrong = append(wrong, sum(r))
		}
		for i := range 32 {
			x := p.tip()
			x[i] ^= 1 << (i % 8)
			wrong = append(wrong, x)
		}
		unlike := p.has[many-1]
		wrong = append(wrong, sum(otherwise(t, 1, unlike)), sum(with(unlike, func(r *chain.Record) { r.Sig = api.Sig{} })), unlike.Prev)
		for _, prev := range wrong {
			if prev != p.tip() {
				p.add(t, "a Prev that is not Tip", signed(1, with(right, func(r *chain.Record) { r.Prev = prev })), api.EFORK)
			}
		}
		p.add(t, "the next one", right, api.OK)
	}
}

// What a chain was told ahead of a refusal does not count: of two that come behind one another the first to come stays.
func TestTwins(t *testing.T) {
	l := line(1, 5, 3)
	twin := signed(1, with(l[1], func(r *chain.Record) { r.Body = []byte("twin") }))
	p := of(t, 1, 5, l[0])
	q := of(t, 1, 5, l[0])
	p.add(t, "one", l[1], api.OK)
	p.add(t, "its twin", twin, api.EFORK)
	q.add(t, "the twin", twin, api.OK)
	q.add(t, "what it is the twin of", l[1], api.EFORK)
	p.add(t, "behind one", l[2], api.OK)
	q.add(t, "behind what it is the twin of", l[2], api.EFORK)
	q.add(t, "behind the twin", behind(1, twin, "3"), api.OK)
	p.add(t, "behind the twin, where that is not", behind(1, twin, "3"), api.EFORK)
	p.add(t, "past it", behind(1, behind(1, twin, "3"), "4"), api.EFORK)
}

// A chain of a device that is none takes nothing.
func TestNewOfADeviceThatIsNone(t *testing.T) {
	for _, dev := range []int{-1, 8, 9, 256, math.MinInt, math.MaxInt} {
		p := begin(1, dev)
		p.holds(t, "of a device that is none")
		for _, r := range append(none(), one(), line(1, 0, 1)[0], line(1, 7, 1)[0]) {
			p.add(t, "to a chain of a device that is none", r, api.EARG)
		}
		p.add(t, "of the device that is none", signed(1, plain(dev, 1, api.Word{}, "")), api.EARG)
	}
}

// A chain whose key is no point takes nothing that anybody can sign.
func TestNewOfAKeyThatIsNoPoint(t *testing.T) {
	for _, r := range []chain.Record{line(1, 5, 1)[0], with(line(1, 5, 1)[0], func(r *chain.Record) { r.Sig = api.Sig{} })} {
		c := chain.New(5, noPoint(t))
		if e := c.Add(r); e != api.EAUTH || c.Len() != 0 {
			t.Errorf("P19.1: Add to a chain of a key that is no point: %d; Len %d", e, c.Len())
		}
		r.Dev = 4
		if e := c.Add(r); e != api.EARG || c.Len() != 0 {
			t.Errorf("P19.1: Add of another Dev to a chain of a key that is no point: %d; Len %d", e, c.Len())
		}
	}
}

// What Make, Get and At tell can be added as it is.
func TestAddOfWhatOthersTold(t *testing.T) {
	p, q := begin(1, 5), begin(1, 5)
	for i := range 4 {
		r, e := chain.Make(seed(1), 5, int64(i+1), p.tip(), filled(i))
		if e != api.OK {
			t.Fatalf("P19.1: Make: %d", e)
		}
		p.add(t, "what Make made", r, api.OK)
		x, e := chain.Get(chain.Put(r))
		if e != api.OK {
			t.Fatalf("P19.1: Get: %d", e)
		}
		p.add(t, "what Get tells", x, api.OK)
		y, _ := p.c.At(r.Seq)
		q.add(t, "what At tells", y, api.OK)
	}
}
