package op_test

import (
	"bytes"
	"encoding/binary"
	"math"
	"regexp"
	"strings"

	"bandbox/api"
	"bandbox/op"
	"bandbox/vec"
)

const most = int64(1) << 40

// first is an edit that may be, of Kind 1: others are made of it.
func first() op.Edit {
	return op.Edit{Dot: api.Dot{Dev: 2, N: 4}, Seen: vec.Vec{1, 0, 3}, Kind: 1, Contact: "ann", Field: "tel", Value: "5", Time: 300}
}

// gone is one that may be, of Kind 2.
func gone() op.Edit {
	return op.Edit{Dot: api.Dot{Dev: 0, N: 1}, Seen: vec.Vec{0, 7}, Kind: 2, Contact: "bob", Time: 9}
}

// with is an edit that is changed.
func with(e op.Edit, change func(e *op.Edit)) op.Edit {
	change(&e)
	return e
}

// at is an edit as another device's, or of another number, that may be if that number and device may.
func at(e op.Edit, dev int, n int64) op.Edit {
	e.Dot = api.Dot{Dev: dev, N: n}
	e.Seen = vec.Vec{}
	if dev >= 0 && dev < len(e.Seen) {
		e.Seen[dev] = n - 1
	}
	return e
}

// allBytes is every byte once.
func allBytes() string {
	b := make([]byte, 256)
	for i := range b {
		b[i] = byte(i)
	}
	return string(b)
}

// some are edits that may be, at the edges of all that they have.
func some() []op.Edit {
	out := []op.Edit{first(), gone()}
	for dev := range 8 {
		for _, n := range []int64{1, 2, 128, 129, most} {
			out = append(out, at(first(), dev, n), at(gone(), dev, n))
		}
	}
	long := strings.Repeat("~", 40)
	out = append(out,
		with(first(), func(e *op.Edit) { e.Contact = long }),
		with(first(), func(e *op.Edit) { e.Field = "!" + long[1:] }),
		with(first(), func(e *op.Edit) { e.Contact, e.Field, e.Value, e.Time = "!", "~", "", 0 }),
		with(first(), func(e *op.Edit) { e.Value = strings.Repeat("v", 200) }),
		with(first(), func(e *op.Edit) { e.Value = allBytes()[:200] }),
		with(first(), func(e *op.Edit) { e.Value = allBytes()[56:] }),
		with(first(), func(e *op.Edit) { e.Seen = vec.Vec{most, most, 3, most, most, most, most, most} }),
		with(gone(), func(e *op.Edit) { e.Time = most }),
		with(gone(), func(e *op.Edit) { e.Contact = long }),
	)
	return out
}

// none are edits that may not be.
func none() []op.Edit {
	out := []op.Edit{{}, {Kind: 1}, {Kind: 2, Contact: "ann"}, {Dot: api.Dot{Dev: math.MinInt, N: math.MinInt64}, Time: math.MinInt64, Kind: math.MinInt}}
	for _, e := range []op.Edit{first(), gone()} {
		for _, d := range []api.Dot{{Dev: -1, N: 1}, {Dev: 8, N: 1}, {Dev: 0, N: 0}, {Dev: 0, N: -1}, {Dev: 0, N: most + 1}, {Dev: 7, N: math.MinInt64}, {Dev: math.MaxInt, N: math.MaxInt64}} {
			out = append(out, at(e, d.Dev, d.N))
		}
		out = append(out,
			with(e, func(e *op.Edit) { e.Dot.N++ }),
			with(e, func(e *op.Edit) { e.Seen[e.Dot.Dev]++ }),
			with(e, func(e *op.Edit) { e.Seen[5] = -1 }),
			with(e, func(e *op.Edit) { e.Seen[7] = most + 1 }),
			with(e, func(e *op.Edit) { e.Kind = 0 }),
			with(e, func(e *op.Edit) { e.Kind = 3 }),
			with(e, func(e *op.Edit) { e.Kind = 3 - e.Kind }),
			with(e, func(e *op.Edit) { e.Time = -1 }),
			with(e, func(e *op.Edit) { e.Time = most + 1 }),
			with(e, func(e *op.Edit) { e.Contact = "" }),
			with(e, func(e *op.Edit) { e.Contact = "a b" }),
			with(e, func(e *op.Edit) { e.Contact = strings.Repeat("a", 41) }),
			with(e, func(e *op.Edit) { e.Field = "\x7f" }),
			with(e, func(e *op.Edit) { e.Field = strings.Repeat("a", 41) }),
			with(e, func(e *op.Edit) { e.Field, e.Value = "", "5" }),
			with(e, func(e *op.Edit) { e.Value = strings.Repeat("v", 201) }),
		)
	}
	return out
}

var namePattern = regexp.MustCompile(`^[!-~]{1,40}\z`)

// mayBe tells in another way whether an edit may be.
func mayBe(e op.Edit) bool {
	name := namePattern.MatchString
	for _, n := range e.Seen {
		if n < 0 || n > most {
			return false
		}
	}
	before := append(e.Seen[:], most)[min(uint(e.Dot.Dev), 8)] // of a device that is none: behind it comes nothing that may be
	if e.Dot.N != before+1 || before == most || e.Time < 0 || e.Time > most || !name(e.Contact) {
		return false
	}
	if e.Kind == 2 {
		return e.Field+e.Value == ""
	}
	return e.Kind == 1 && name(e.Field) && len(e.Value) < 201
}

// told are, reckoned in another way, the bytes that tell an edit; also of one that may not be, if no number is below 0.
func told(e op.Edit) []byte {
	var out []byte
	num := func(v int64) { out = binary.AppendUvarint(out, uint64(v)) }
	text := func(s string) {
		num(int64(len(s)))
		out = append(out, s...)
	}
	num(int64(e.Dot.Dev))
	num(e.Dot.N)
	for _, v := range e.Seen {
		num(v)
	}
	num(int64(e.Kind))
	num(e.Time)
	text(e.Contact)
	text(e.Field)
	text(e.Value)
	return out
}

// parsed reads an edit in another way: it is none, if its own bytes are not just those, or it may not be.
func parsed(b []byte) (op.Edit, bool) {
	rest := b
	num := func() int64 {
		v, n := binary.Uvarint(rest)
		rest = rest[max(n, 0):]
		return int64(v)
	}
	text := func() string {
		n := min(uint64(num()), uint64(len(rest)))
		s := string(rest[:n])
		rest = rest[n:]
		return s
	}
	var e op.Edit
	e.Dot.Dev, e.Dot.N = int(num()), num()
	for i := range e.Seen {
		e.Seen[i] = num()
	}
	e.Kind, e.Time = int(num()), num()
	e.Contact, e.Field, e.Value = text(), text(), text()
	if !mayBe(e) || !bytes.Equal(told(e), b) {
		return op.Edit{}, false
	}
	return e, true
}
