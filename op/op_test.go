package op_test

import (
	"math"
	"strings"
	"testing"

	"bandbox/api"
	"bandbox/op"
	"bandbox/vec"
)

func TestTheChaptersExample(t *testing.T) {
	a := op.Edit{Dot: api.Dot{Dev: 0, N: 1}, Kind: 1, Contact: "ann", Field: "tel", Value: "5", Time: 2}
	b := op.Edit{Dot: api.Dot{Dev: 1, N: 1}, Seen: vec.Vec{1}, Kind: 1, Contact: "ann", Field: "tel", Value: "6", Time: 1}
	if !op.Over(b, a) || op.Over(a, b) {
		t.Errorf("P16.1: Over of one that has seen another: %v, the other way round: %v", op.Over(b, a), op.Over(a, b))
	}
}

// good fails where Good tells something else of e, or Put writes something of what may not be, or nothing of what may.
func good(t *testing.T, what string, e op.Edit, want bool) {
	t.Helper()
	if got := op.Good(e); got != want {
		t.Errorf("P16.1: Good, %s: %v of %+v", what, got, e)
	}
	if got := op.Put(e); len(got) > 0 != want {
		t.Errorf("P16.1: Put, %s: %d bytes of %+v", what, len(got), e)
	}
	if mayBe(e) != want {
		t.Errorf("the test reckons %s wrongly: %+v", what, e)
	}
}

func TestGood(t *testing.T) {
	for _, e := range some() {
		good(t, "one that may be", e, true)
	}
	for _, e := range none() {
		good(t, "one that may not be", e, false)
	}
}

func TestGoodOfDots(t *testing.T) {
	for _, e := range []op.Edit{first(), gone()} {
		for _, dev := range []int{0, 1, 2, 3, 4, 5, 6, 7, 8, 9, 15, 256, 1 << 32, math.MaxInt, -1, -2, -8, math.MinInt} {
			for _, n := range []int64{1, 2, 127, 128, most - 1, most, most + 1, math.MaxInt64, 0, -1, math.MinInt64 + 1, math.MinInt64} {
				good(t, "another Dot", at(e, dev, n), dev >= 0 && dev <= 7 && n >= 1 && n <= most)
			}
		}
	}
}

// The number is one more than what was seen of the device; of the others it does not matter.
func TestGoodOfWhatWasSeen(t *testing.T) {
	for dev := range 8 {
		for _, n := range []int64{1, 2, 5, most - 1, most} {
			for _, seen := range []int64{0, 1, 2, 4, 5, 6, most - 2, most - 1, most, most + 1, -1, math.MaxInt64, math.MinInt64} {
				e := at(first(), dev, n)
				e.Seen[dev] = seen
				good(t, "what was seen of its own device", e, seen == n-1)
				for other := range 8 {
					if other != dev {
						e = at(gone(), dev, n)
						e.Seen[other] = seen
						good(t, "what was seen of another device", e, seen >= 0 && seen <= most)
					}
				}
			}
		}
	}
	wrong := at(first(), 3, math.MinInt64)
	wrong.Seen[3] = math.MaxInt64
	good(t, "a number behind the greatest one", wrong, false)
}

func TestGoodOfTimes(t *testing.T) {
	for _, time := range []int64{0, 1, 300, most - 1, most, most + 1, math.MaxInt64, -1, -most, math.MinInt64} {
		for _, e := range []op.Edit{first(), gone()} {
			e.Time = time
			good(t, "another Time", e, time >= 0 && time <= most)
		}
	}
}

func TestGoodOfKinds(t *testing.T) {
	for _, kind := range []int{1, 2, 0, 3, 4, 255, 257, 1<<32 + 1, math.MaxInt, -1, -2, math.MinInt} {
		for _, field := range []string{"", "tel"} {
			for _, value := range []string{"", "5"} {
				e := with(first(), func(e *op.Edit) { e.Kind, e.Field, e.Value = kind, field, value })
				good(t, "another Kind", e, kind == 1 && field != "" || kind == 2 && field == "" && value == "")
			}
		}
	}
}

// names are texts, and whether each is a name.
func names() map[string]bool {
	out := map[string]bool{"": false, "ann": true, "a-b_c.d@e": true, "\"'\\": true, "é": false, "a\nb": false, "a\xffb": false}
	for n := range 300 {
		out[strings.Repeat("n", n)] = n >= 1 && n <= 40
	}
	for c := range 256 {
		b := string([]byte{byte(c)})
		is := c >= 33 && c <= 126
		out[b] = is
		for _, n := range []int{1, 2, 19, 38} {
			x := strings.Repeat("x", n)
			out[b+x], out[x+b], out[x[1:]+b+"x"] = is, is, is
		}
		out[strings.Repeat("x", 39)+b] = is
		out[strings.Repeat("x", 40)+b] = false
	}
	return out
}

func TestGoodOfContactsAndFields(t *testing.T) {
	for name, is := range names() {
		good(t, "another Contact", with(first(), func(e *op.Edit) { e.Contact = name }), is)
		good(t, "another Contact of one that removes", with(gone(), func(e *op.Edit) { e.Contact = name }), is)
		good(t, "another Field", with(first(), func(e *op.Edit) { e.Field = name }), is)
		good(t, "a Field of one that removes", with(gone(), func(e *op.Edit) { e.Field = name }), name == "")
	}
}

func TestGoodOfValues(t *testing.T) {
	for _, n := range []int{0, 1, 2, 127, 128, 199, 200, 201, 202, 255, 256, 400, 70000} {
		for _, s := range []string{"v", "\x00", "\xff", " ", "\n"} {
			value := strings.Repeat(s, n)
			good(t, "another Value", with(first(), func(e *op.Edit) { e.Value = value }), n <= 200)
			good(t, "a Value of one that removes", with(gone(), func(e *op.Edit) { e.Value = value }), n == 0)
		}
	}
	// Bytes are counted, not letters.
	good(t, "a Value of 100 letters", with(first(), func(e *op.Edit) { e.Value = strings.Repeat("é", 100) }), true)
	good(t, "a Value of 101 letters", with(first(), func(e *op.Edit) { e.Value = strings.Repeat("é", 101) }), false)
	for i := range 256 {
		good(t, "a Value of one byte", with(first(), func(e *op.Edit) { e.Value = allBytes()[i : i+1] }), true)
	}
}

// over fails where Over tells something else.
func over(t *testing.T, what string, a, b op.Edit, want bool) {
	t.Helper()
	if got := op.Over(a, b); got != want {
		t.Errorf("P16.1: Over, %s: %v of %+v and %+v", what, got, a, b)
	}
}

// ends are two edits of which the first one is Over the second one: of Kind 1, and of Kind 2.
func ends() [][2]op.Edit {
	b := first()
	a := at(first(), 5, 1)
	a.Seen[2] = 4
	a.Value, a.Time = "other", 1
	return [][2]op.Edit{{a, b}, {with(a, func(e *op.Edit) { e.Kind, e.Field, e.Value = 2, "", "" }), b}}
}

func TestOver(t *testing.T) {
	for _, pair := range ends() {
		a, b := pair[0], pair[1]
		over(t, "one that has seen it", a, b, true)
		over(t, "the other way round", b, a, false)
		over(t, "of itself", a, a, false)
		for _, time := range []int64{0, 300, 301, most, -1, math.MinInt64, math.MaxInt64} {
			over(t, "whatever its Time", with(a, func(e *op.Edit) { e.Time = time }), b, true)
		}
		over(t, "of another Value", a, with(b, func(e *op.Edit) { e.Value = "" }), true)
		over(t, "of one that has seen it, too", a, with(b, func(e *op.Edit) { e.Seen[5] = 1 }), true)
	}
}

func TestOverAsksForEachThing(t *testing.T) {
	for _, pair := range ends() {
		a, b := pair[0], pair[1]
		for _, seen := range []int64{0, 1, 3, 4, 5, most, -1, math.MinInt64, math.MaxInt64} {
			over(t, "what it had seen", with(a, func(e *op.Edit) { e.Seen[2] = seen }), b, seen >= 4)
		}
		over(t, "none seen but of others", with(a, func(e *op.Edit) { e.Seen = vec.Vec{9, 9, 0, 9, 9, 9, 9, 9} }), b, false)
		for _, contact := range []string{"", "bob", "an", "anna", "Ann", "ann ", "tel", "ann\x00"} {
			over(t, "another Contact of it", with(a, func(e *op.Edit) { e.Contact = contact }), b, false)
			over(t, "another Contact of the other one", a, with(b, func(e *op.Edit) { e.Contact = contact }), false)
		}
		for _, kind := range []int{0, 2, 3, -1, 257, math.MinInt, math.MaxInt} {
			over(t, "another Kind of the other one", a, with(b, func(e *op.Edit) { e.Kind = kind }), false)
		}
		for _, kind := range []int{0, 3, -1, 257, 258, math.MinInt, math.MaxInt} {
			over(t, "a Kind that is none", with(a, func(e *op.Edit) { e.Kind = kind }), b, false)
			over(t, "a Kind that is none, with that Field", with(a, func(e *op.Edit) { e.Kind, e.Field = kind, "tel" }), b, false)
		}
		for _, field := range []string{"", "mail", "te", "tels", "Tel", "ann", "tel\x00"} {
			over(t, "another Field of it", with(a, func(e *op.Edit) { e.Field = field }), b, a.Kind == 2)
			over(t, "another Field of the other one", a, with(b, func(e *op.Edit) { e.Field = field }), a.Kind == 2)
		}
	}
}

// Each of the eight: a device's own next one ends its last one, too.
func TestOverOfEachDevice(t *testing.T) {
	for dev := range 8 {
		for _, n := range []int64{1, 2, 300, most - 1, most} {
			b := at(first(), dev, n)
			for _, kind := range []int{1, 2} {
				next := with(at(first(), dev, n+1), func(e *op.Edit) { e.Kind = kind })
				over(t, "a device's own next one", next, b, true)
				over(t, "a device's own one ahead", with(at(first(), dev, n-1), func(e *op.Edit) { e.Kind = kind }), b, false)
				over(t, "one of its Dot", with(b, func(e *op.Edit) { e.Kind = kind }), b, false)
				for other := range 8 {
					a := with(at(first(), other, 1), func(e *op.Edit) { e.Kind, e.Seen[dev] = kind, n })
					over(t, "another device's", a, b, true)
					a.Seen[dev] = n - 1
					over(t, "another device's that has not seen it", a, b, false)
				}
			}
		}
	}
}

// Over looks at what it asks for alone, also of edits that may not be.
func TestOverOfEditsThatMayNotBe(t *testing.T) {
	a, b := ends()[0][0], ends()[0][1]
	for _, d := range []api.Dot{{Dev: -1, N: 1}, {Dev: 8, N: 1}, {Dev: math.MinInt, N: 4}, {Dev: math.MaxInt, N: 4}, {Dev: 2, N: 0}, {Dev: 2, N: -1}, {Dev: 2, N: math.MinInt64}} {
		over(t, "a Dot that is none", with(a, func(e *op.Edit) { e.Seen = vec.Vec{most, most, most, most, most, most, most, most} }), with(b, func(e *op.Edit) { e.Dot = d }), false)
		over(t, "of a Dot that is none", with(a, func(e *op.Edit) { e.Dot = d }), b, true)
	}
	over(t, "names that are none", with(a, func(e *op.Edit) { e.Contact, e.Field = "", "\xff " }), with(b, func(e *op.Edit) { e.Contact, e.Field = "", "\xff " }), true)
	over(t, "a Field of one that removes", with(ends()[1][0], func(e *op.Edit) { e.Field, e.Value = "mail", "5" }), b, true)
	own := with(first(), func(e *op.Edit) { e.Seen[2] = 9 })
	over(t, "one that has seen itself", own, own, true)
	over(t, "two zero edits", op.Edit{}, op.Edit{}, false)
	over(t, "a zero edit", a, op.Edit{}, false)
	over(t, "of a zero edit", op.Edit{}, b, false)
}

func TestOverOfTwoThatHaveNotSeenOneAnother(t *testing.T) {
	for _, x := range some() {
		for _, y := range some() {
			want := y.Kind == 1 && y.Dot.N <= x.Seen[y.Dot.Dev] && x.Contact == y.Contact && (x.Kind == 2 || x.Field == y.Field)
			over(t, "any two", x, y, want)
		}
	}
}

// less fails where Less tells something else, in either order.
func less(t *testing.T, a, b op.Edit, want bool) {
	t.Helper()
	if got := op.Less(a, b); got != want {
		t.Errorf("P16.1: Less of %+v and %+v: %v", a, b, got)
	}
}

// dated is an edit of a Time and a Dot.
func dated(time int64, dev int, n int64) op.Edit {
	return op.Edit{Time: time, Dot: api.Dot{Dev: dev, N: n}}
}

// Each of these is Less than all that come behind it: also where a number is none that an edit may have.
func TestLess(t *testing.T) {
	times := []int64{math.MinInt64, -1, 0, 1, 300, most, most + 1, math.MaxInt64}
	devs := []int{math.MinInt, -1, 0, 1, 2, 7, 8, math.MaxInt}
	numbers := []int64{math.MinInt64, -1, 0, 1, 2, most, math.MaxInt64}
	var all []op.Edit
	for _, time := range times {
		for _, dev := range devs {
			for _, n := range numbers {
				all = append(all, dated(time, dev, n))
			}
		}
	}
	for i, a := range all {
		for j, b := range all {
			less(t, a, b, i < j)
		}
	}
}

func TestLessLooksAtNothingElse(t *testing.T) {
	a := first()
	for _, b := range []op.Edit{
		with(a, func(e *op.Edit) { e.Seen[0]++ }),
		with(a, func(e *op.Edit) { e.Seen[2] = -9 }),
		with(a, func(e *op.Edit) { e.Kind = 2 }),
		with(a, func(e *op.Edit) { e.Kind = -2 }),
		with(a, func(e *op.Edit) { e.Contact = "zoe" }),
		with(a, func(e *op.Edit) { e.Field = "zip" }),
		with(a, func(e *op.Edit) { e.Value = "zzz" }),
		with(gone(), func(e *op.Edit) { e.Dot, e.Time = a.Dot, a.Time }),
	} {
		less(t, a, b, false)
		less(t, b, a, false)
		less(t, a, with(b, func(e *op.Edit) { e.Time++ }), true)
		less(t, a, with(b, func(e *op.Edit) { e.Dot.Dev++ }), true)
		less(t, a, with(b, func(e *op.Edit) { e.Dot.N++ }), true)
		less(t, a, with(b, func(e *op.Edit) { e.Time-- }), false)
		less(t, a, with(b, func(e *op.Edit) { e.Dot.Dev-- }), false)
		less(t, a, with(b, func(e *op.Edit) { e.Dot.N-- }), false)
	}
}
