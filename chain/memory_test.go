package chain_test

import (
	"bytes"
	"testing"

	"bandbox/api"
	"bandbox/chain"
)

// whole is a list of bytes at the front of a longer row: it has spare room behind it, and the row shows that, too.
func whole(b []byte) (row, part []byte) {
	row = append(bytes.Clone(b), bytes.Repeat([]byte{0x5a}, 300)...)
	return row, row[:len(b)]
}

// scribble writes into a list, its spare room too, and puts more behind it.
func scribble(b []byte) {
	_ = append(b, "more and more"...)
	b = b[:cap(b)]
	for i := range b {
		b[i] = 0xee
	}
}

// roomy is a record whose Body has spare room behind it, and the row that shows it.
func roomy(r chain.Record) (row []byte, same chain.Record) {
	row, r.Body = whole(r.Body)
	return row, r
}

func TestNothingHandedInIsChanged(t *testing.T) {
	c := chain.New(5, public(1))
	for _, r := range append(append(some(), none()...), line(1, 5, 3)...) {
		row, x := roomy(r)
		before := bytes.Clone(row)
		chain.Make(seed(1), x.Dev, x.Seq, x.Prev, x.Body)
		chain.Good(x)
		chain.Check(public(1), x)
		chain.Sum(x)
		chain.Put(x)
		chain.Same(x, one())
		chain.Same(one(), x)
		c.Add(x)
		c.Add(x)
		if !bytes.Equal(row, before) || !alike(x, r) {
			t.Errorf("R4: what was handed in was changed: %v, not %v", short(x), short(r))
		}
		row, b := whole(told(r))
		before = bytes.Clone(row)
		chain.Get(b)
		chain.Get(b[:len(b)/2])
		chain.Get(row)
		if !bytes.Equal(row, before) {
			t.Errorf("R4: Get changed what was handed in: of %v", short(r))
		}
	}
}

// What Make told stays, whatever becomes of what was handed in; and the other way round.
func TestWhatMakeToldIsItsOwn(t *testing.T) {
	for _, r := range some() {
		row, body := whole(r.Body)
		got, e := chain.Make(seed(1), r.Dev, r.Seq, r.Prev, body)
		other, _ := chain.Make(seed(1), r.Dev, r.Seq, r.Prev, body)
		before := bytes.Clone(row)
		scribble(other.Body)
		if !bytes.Equal(row, before) {
			t.Errorf("R4: writing into what Make told turned what was handed in: of %v", short(r))
		}
		scribble(row)
		if want := signed(1, r); e != api.OK || !alike(got, want) {
			t.Errorf("R4: writing turned what Make told: %v, not %v", short(got), short(want))
		}
		check(t, "what Make told, behind writing", public(1), got, true)
	}
}

func TestWhatGetToldIsItsOwn(t *testing.T) {
	for _, r := range some() {
		row, b := whole(told(r))
		got, e := chain.Get(b)
		other, _ := chain.Get(b)
		before := bytes.Clone(row)
		scribble(other.Body)
		if !bytes.Equal(row, before) {
			t.Errorf("R4: writing into what Get told turned what was handed in: of %v", short(r))
		}
		scribble(row)
		if e != api.OK || !alike(got, r) {
			t.Errorf("R4: writing turned what Get told: %v, not %v", short(got), short(r))
		}
	}
}

func TestWhatPutToldIsItsOwn(t *testing.T) {
	for _, r := range append(some(), none()...) {
		row, x := roomy(r)
		before := bytes.Clone(row)
		first, second := chain.Put(x), chain.Put(x)
		want := bytes.Clone(second)
		scribble(first)
		if !bytes.Equal(second, want) || !bytes.Equal(row, before) || !alike(x, r) {
			t.Errorf("R4: writing into what Put told turned something else: of %v", short(r))
		}
		scribble(row)
		if !bytes.Equal(second, want) {
			t.Errorf("R4: writing into what was handed in turned what Put told: of %v", short(r))
		}
		if again := chain.Put(r); !bytes.Equal(again, want) {
			t.Errorf("R5: Put of %v: %d bytes, then %d others", short(r), len(want), len(again))
		}
	}
}

// What a chain was told is its own: the Body that was handed in may be written into behind the call.
func TestAChainKeepsItsOwnBytes(t *testing.T) {
	p := begin(1, 5)
	var rows [][]byte
	for i, r := range line(1, 5, 9) {
		row, x := roomy(r)
		rows = append(rows, row)
		p.add(t, "one with spare room", x, api.OK)
		if i%2 == 0 {
			again, y := roomy(r)
			p.add(t, "the same once more", y, api.OK)
			scribble(again)
			p.holds(t, "behind writing into one that was there already")
		}
		twin := signed(1, with(r, func(r *chain.Record) { r.Body = append(r.Body, 'x') }))
		refused, y := roomy(twin)
		p.add(t, "its twin", y, api.EFORK)
		scribble(refused)
		p.holds(t, "behind writing into one that was refused")
		scribble(row)
		p.holds(t, "behind writing into what was handed in")
	}
	for _, row := range rows {
		scribble(row)
	}
	p.holds(t, "behind writing into all that was handed in")
}

// What At tells is its own: it may be written into, and stays as it was, whatever comes.
func TestWhatAtToldIsItsOwn(t *testing.T) {
	p := begin(1, 5)
	var answers []chain.Record
	for _, r := range line(1, 5, 20) {
		p.add(t, "the next one", r, api.OK)
		first, _ := p.c.At(r.Seq)
		second, _ := p.c.At(r.Seq)
		scribble(first.Body)
		if !alike(second, r) {
			t.Errorf("R4: two answers of At share their Body: %v, not %v", short(second), short(r))
		}
		p.holds(t, "behind writing into what At told")
		answers = append(answers, second)
	}
	for i, r := range answers {
		if !alike(r, p.has[i]) {
			t.Errorf("R4: an answer of At turned: %v, not %v", short(r), short(p.has[i]))
		}
		scribble(r.Body)
	}
	p.holds(t, "behind writing into all that At told")
}

// Two chains share nothing: not those that were told the same, not those of which one was told what the other one told.
func TestTwoChainsShareNothing(t *testing.T) {
	for many := range 6 {
		l := line(1, 5, many)
		p, q := of(t, 1, 5, l...), of(t, 1, 5, l...)
		third := begin(1, 5)
		for _, r := range p.has {
			x, _ := p.c.At(r.Seq)
			third.add(t, "what another chain told", x, api.OK)
			scribble(x.Body)
		}
		p.holds(t, "behind writing into what it told")
		third.holds(t, "behind writing into what it was told")
		p.add(t, "one", next(1, 5, l, "one"), api.OK)
		q.holds(t, "when another one was told more")
		q.add(t, "two", next(1, 5, l, "two"), api.OK)
		third.add(t, "three", next(1, 5, l, "three"), api.OK)
		p.holds(t, "when two others were told something else")
		q.holds(t, "when a third one was told something else")
		begin(1, 5).holds(t, "a new one of the same device and key")
		begin(2, 5).add(t, "of another key", next(2, 5, nil, "two"), api.OK)
		p.holds(t, "when one of another key was told something")
	}
}

// A record that is handed in is a value: what is written into its fields behind the call turns nothing.
func TestFieldsAreCopies(t *testing.T) {
	p := begin(1, 5)
	for _, r := range line(1, 5, 3) {
		x := with(r, func(*chain.Record) {})
		p.add(t, "the next one", x, api.OK)
		x.Dev, x.Seq, x.Prev, x.Sig = 9, -1, api.Word{1}, api.Sig{2}
		got, _ := p.c.At(r.Seq)
		got.Dev, got.Seq, got.Prev, got.Body, got.Sig = 9, -1, api.Word{1}, nil, api.Sig{2}
		p.holds(t, "behind writing into fields")
	}
}

// nil and an empty Body are one.
func TestNilAndAnEmptyListAreOne(t *testing.T) {
	for _, seq := range []int64{1, 2, most} {
		x, e := chain.Make(seed(1), 3, seq, api.Word{}, nil)
		for _, empty := range [][]byte{{}, make([]byte, 0, 9), filled(9)[:0]} {
			y, f := chain.Make(seed(1), 3, seq, api.Word{}, empty)
			if e != api.OK || f != api.OK || !alike(x, y) || !chain.Same(x, y) {
				t.Errorf("R4: Make with nil: %v, %d, with an empty Body: %v, %d", x, e, y, f)
			}
			y.Body = empty
			if !chain.Good(y) || !chain.Check(public(1), y) || chain.Sum(y) != chain.Sum(x) || !bytes.Equal(chain.Put(x), chain.Put(y)) {
				t.Errorf("R4: with nil %v is told otherwise than with an empty Body", x)
			}
		}
	}
	_, e := chain.Get(nil)
	_, f := chain.Get([]byte{})
	_, g := chain.Get(make([]byte, 0, 200))
	if e != f || f != g || e != api.EFORM {
		t.Errorf("R4: Get: %d of nil, %d and %d of an empty list", e, f, g)
	}
}

// What a call answers hangs on its arguments, and on what its object was told: the same again, whatever was asked between.
func TestTheSameAgain(t *testing.T) {
	p := of(t, 1, 5, line(1, 5, 4)...)
	all := append(some(), none()...)
	for i, r := range all {
		good, checked, put, sums, same := chain.Good(r), chain.Check(public(1), r), chain.Put(r), chain.Sum(r), chain.Same(r, one())
		got, e := chain.Get(put)
		made, f := chain.Make(seed(2), r.Dev, r.Seq, r.Prev, r.Body)
		between := all[(i*7+1)%len(all)]
		chain.Good(between)
		chain.Check(public(2), between)
		chain.Get(chain.Put(between))
		chain.Get([]byte("what is no record"))
		chain.New(between.Dev, public(1)).Add(between)
		p.c.Add(signed(2, between))
		again, g := chain.Get(put)
		remade, h := chain.Make(seed(2), r.Dev, r.Seq, r.Prev, r.Body)
		if chain.Good(r) != good || chain.Check(public(1), r) != checked || !bytes.Equal(chain.Put(r), put) || chain.Sum(r) != sums || chain.Same(r, one()) != same {
			t.Errorf("R5: of %v something else is told the second time", short(r))
		}
		if !alike(got, again) || e != g || !alike(made, remade) || f != h {
			t.Errorf("R5: Get, Make of %v tell something else the second time", short(r))
		}
	}
	for range 3 {
		p.holds(t, "behind many refusals")
	}
}
