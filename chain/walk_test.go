package chain_test

import (
	"testing"

	"bandbox/api"
	"bandbox/chain"
)

// Each number about a chain's end with each Prev, Body and Sig, held against another reckoning.
func TestAddOfAllAboutTheEnd(t *testing.T) {
	answers := map[api.Errno]int{}
	l := line(1, 5, 4)
	for many := range 4 {
		p := of(t, 1, 5, l[:many]...)
		for seq := int64(-1); seq <= int64(many+2); seq++ {
			for _, prev := range []api.Word{{}, sum(l[0]), sum(l[1]), sum(l[2])} {
				for _, body := range []string{string(filled(int(max(seq, 1) - 1))), "other"} {
					r := plain(5, seq, prev, body)
					for _, x := range []chain.Record{signed(1, r), signed(2, r), signed(1, with(r, func(r *chain.Record) { r.Dev = 4 })), otherwise(t, 1, r)} {
						want := p.answer(x)
						if want == api.OK && seq > int64(many) {
							answers[-1]++
							continue // what is the next one: it would be there for the others
						}
						answers[want]++
						p.add(t, "all about the end", x, want)
					}
				}
			}
		}
	}
	for _, e := range []api.Errno{-1, api.OK, api.EARG, api.EAUTH, api.EGAP, api.EFORK} {
		if answers[e] < 4 {
			t.Errorf("the test is no test: %d is answered %d times", e, answers[e])
		}
	}
}

// drawn is a record that may be the next one, or is not in one of many ways.
func (p *paper) drawn(t *testing.T, d *roll) chain.Record {
	t.Helper()
	r := next(p.n, p.dev, p.has, string(filled(d.next(9))))
	if d.next(5) < 2 {
		return r
	}
	if many := len(p.has); many > 0 && d.next(2) == 0 {
		r = with(p.has[d.next(many)], func(*chain.Record) {}) // one that is there
	}
	by := p.n
	for range d.next(3) {
		switch d.next(9) {
		case 0:
			r.Dev = d.next(9)
		case 1:
			r.Seq = int64(d.next(len(p.has) + 4))
		case 2:
			r.Prev = api.Word{}
		case 3:
			r.Prev[d.next(32)] ^= 1 << d.next(8)
		case 4:
			r.Prev = p.tip()
		case 5:
			r.Body = filled(d.next(9))
		case 6:
			r.Body = make([]byte, 16384+d.next(2))
		case 7:
			by = p.n + d.next(2)
		case 8:
			r.Seq++
		}
		r = signed(by, r)
	}
	switch d.next(8) {
	case 0:
		r.Sig[d.next(64)] ^= 1 << d.next(8)
	case 1:
		if by == p.n {
			r = otherwise(t, by, r)
		}
	}
	return r
}

func TestDrawnWalks(t *testing.T) {
	d := roll(19)
	answers := map[api.Errno]int{}
	for walk := range 60 {
		p := begin(walk%3, walk%8)
		for range 40 {
			r := p.drawn(t, &d)
			e := p.answer(r)
			answers[e]++
			p.add(t, "a drawn one", r, e)
		}
	}
	for _, e := range []api.Errno{api.OK, api.EARG, api.EAUTH, api.EGAP, api.EFORK} {
		if answers[e] < 50 {
			t.Errorf("the test is no test: %d is answered %d times", e, answers[e])
		}
	}
}
