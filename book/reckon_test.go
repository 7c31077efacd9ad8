package book_test

import (
	"fmt"
	"maps"
	"math"
	"slices"
	"strings"
	"testing"

	"bandbox/api"
	"bandbox/book"
	"bandbox/op"
	"bandbox/vec"
)

const most = int64(1) << 40

// sets is an edit of Kind 1: what it has seen of its own device is what an edit of that number has.
func sets(dev int, n int64, seen vec.Vec, contact, field, value string, time int64) op.Edit {
	seen[dev] = n - 1
	return op.Edit{Dot: api.Dot{Dev: dev, N: n}, Seen: seen, Kind: 1, Contact: contact, Field: field, Value: value, Time: time}
}

// removes is one of Kind 2.
func removes(dev int, n int64, seen vec.Vec, contact string, time int64) op.Edit {
	seen[dev] = n - 1
	return op.Edit{Dot: api.Dot{Dev: dev, N: n}, Seen: seen, Kind: 2, Contact: contact, Time: time}
}

// plain is an edit for tests that ask for nothing but its Dot.
func plain(dev int, n int64) op.Edit {
	return sets(dev, n, vec.Vec{}, "ann", "tel", fmt.Sprint(dev, " ", n), 7)
}

// with is an edit that is changed.
func with(e op.Edit, change func(e *op.Edit)) op.Edit {
	change(&e)
	return e
}

// others are, for an edit of Kind 1, other ones of its Dot that may be: each is unlike in one thing alone (of Kind 2 it
// has no Field nor Value, so that one is unlike in three).
func others(e op.Edit) []op.Edit {
	out := []op.Edit{
		with(e, func(e *op.Edit) { e.Kind, e.Field, e.Value = 2, "", "" }),
		with(e, func(e *op.Edit) { e.Contact += "x" }),
		with(e, func(e *op.Edit) { e.Contact = strings.ToUpper(e.Contact) }),
		with(e, func(e *op.Edit) { e.Field += "x" }),
		with(e, func(e *op.Edit) { e.Field = strings.ToUpper(e.Field) }),
		with(e, func(e *op.Edit) { e.Value += "\x00" }),
		with(e, func(e *op.Edit) { e.Value = e.Value + e.Value + " " }),
		with(e, func(e *op.Edit) { e.Time++ }),
		with(e, func(e *op.Edit) { e.Time = most }),
	}
	for dev := range e.Seen {
		if dev != e.Dot.Dev {
			out = append(out, with(e, func(e *op.Edit) { e.Seen[dev]++ }))
		}
	}
	return out
}

// none are edits that may not be; some have the Dot of plain(2, 4).
func none() []op.Edit {
	e := plain(2, 4)
	out := []op.Edit{{}, {Kind: 1}, {Dot: api.Dot{Dev: math.MinInt, N: math.MinInt64}, Time: math.MinInt64}, {Dot: api.Dot{Dev: math.MaxInt, N: math.MaxInt64}, Kind: 1, Contact: "a", Field: "b"}}
	for _, d := range []api.Dot{{Dev: -1, N: 4}, {Dev: 8, N: 4}, {Dev: 2, N: 0}, {Dev: 2, N: -1}, {Dev: 2, N: 3}, {Dev: 2, N: 5}, {Dev: 1, N: 4}, {Dev: 0, N: most + 1}} {
		out = append(out, with(e, func(e *op.Edit) { e.Dot = d }))
	}
	return append(out,
		with(plain(2, most), func(e *op.Edit) { e.Dot.N, e.Seen[2] = most+1, most }),
		with(e, func(e *op.Edit) { e.Seen[2]++ }),
		with(e, func(e *op.Edit) { e.Seen[2]-- }),
		with(e, func(e *op.Edit) { e.Seen[7] = most + 1 }),
		with(e, func(e *op.Edit) { e.Seen[0] = -1 }),
		with(e, func(e *op.Edit) { e.Kind = 0 }),
		with(e, func(e *op.Edit) { e.Kind = 2 }),
		with(e, func(e *op.Edit) { e.Kind = 3 }),
		with(e, func(e *op.Edit) { e.Time = -1 }),
		with(e, func(e *op.Edit) { e.Time = most + 1 }),
		with(e, func(e *op.Edit) { e.Contact = "" }),
		with(e, func(e *op.Edit) { e.Contact = strings.Repeat("a", 41) }),
		with(e, func(e *op.Edit) { e.Contact = "an n" }),
		with(e, func(e *op.Edit) { e.Contact = "ann\x7f" }),
		with(e, func(e *op.Edit) { e.Field = "" }),
		with(e, func(e *op.Edit) { e.Field = "t\xe9l" }),
		with(e, func(e *op.Edit) { e.Field = strings.Repeat("a", 41) }),
		with(e, func(e *op.Edit) { e.Value = strings.Repeat("a", 201) }),
	)
}

// teller is what a book tells.
type teller interface {
	Contacts() []string
	Fields(contact string) []string
	All(contact, field string) []string
	Value(contact, field string) (string, bool)
	Edits() []op.Edit
	Vec() vec.Vec
	Next(dev int) (api.Dot, vec.Vec)
}

// told is all that one tells, in a text; of the names, and of those that its edits have.
func told(x teller, names ...string) string {
	for _, e := range x.Edits() {
		names = append(names, e.Contact, e.Field)
	}
	slices.Sort(names)
	names = slices.Compact(names)
	var s strings.Builder
	fmt.Fprintf(&s, "%+v\n%v\n%q\n", x.Edits(), x.Vec(), x.Contacts())
	for dev := -1; dev <= 8; dev++ {
		dot, seen := x.Next(dev)
		fmt.Fprintln(&s, dot, seen)
	}
	for _, contact := range names {
		fmt.Fprintf(&s, "%q: %q\n", contact, x.Fields(contact))
		for _, field := range names {
			all := x.All(contact, field)
			if value, ok := x.Value(contact, field); ok || value != "" || len(all) > 0 {
				fmt.Fprintf(&s, "%q %q: %q, %q %v\n", contact, field, all, value, ok)
			}
		}
	}
	return s.String()
}

// unlike is the first line in which two that were told differ.
func unlike(got, want string) string {
	one, two := strings.Split(got, "\n"), strings.Split(want, "\n")
	for i := range min(len(one), len(two)) {
		if one[i] != two[i] {
			return "a book tells\n" + one[i] + "\nnot\n" + two[i]
		}
	}
	return fmt.Sprintf("a book tells %d lines, not %d", len(one), len(two))
}

// plus is a list of its own with more behind it.
func plus(edits []op.Edit, more ...op.Edit) []op.Edit {
	return slices.Concat(edits, more)
}

// paper is another reckoning of what a book is to tell: edits, as they came.
type paper struct {
	edits map[api.Dot]op.Edit
}

func (p *paper) Add(e op.Edit) api.Errno {
	if !op.Good(e) {
		return api.EARG
	}
	if old, there := p.edits[e.Dot]; there {
		if fmt.Sprintf("%#v", old) == fmt.Sprintf("%#v", e) {
			return api.OK
		}
		return api.EFORK
	}
	if len(p.edits) == 500 {
		return api.ELIMIT
	}
	if p.edits == nil {
		p.edits = map[api.Dot]op.Edit{}
	}
	p.edits[e.Dot] = e
	return api.OK
}

// live are those that hold, of those that are asked for: behind texts that stand in their order.
func (p *paper) live(asked func(e op.Edit) bool) map[string]op.Edit {
	out := map[string]op.Edit{}
	for d, e := range p.edits {
		if e.Kind == 1 && asked(e) && !p.ended(e) {
			out[fmt.Sprintf("%020d %d %020d", e.Time, d.Dev, d.N)] = e
		}
	}
	return out
}

func (p *paper) ended(e op.Edit) bool {
	for _, a := range p.edits {
		if a.Seen[e.Dot.Dev] >= e.Dot.N && a.Contact == e.Contact && (a.Kind == 2 || a.Field == e.Field) {
			return true
		}
	}
	return false
}

func (p *paper) of(contact, field string) map[string]op.Edit {
	return p.live(func(e op.Edit) bool { return e.Contact == contact && e.Field == field })
}

func (p *paper) Contacts() []string {
	out := map[string]int{}
	for _, e := range p.live(func(op.Edit) bool { return true }) {
		out[e.Contact]++
	}
	return slices.Sorted(maps.Keys(out))
}

func (p *paper) Fields(contact string) []string {
	out := map[string]int{}
	for _, e := range p.live(func(e op.Edit) bool { return e.Contact == contact }) {
		out[e.Field]++
	}
	return slices.Sorted(maps.Keys(out))
}

func (p *paper) All(contact, field string) []string {
	var out []string
	live := p.of(contact, field)
	for _, key := range slices.Sorted(maps.Keys(live)) {
		out = append(out, live[key].Value)
	}
	return out
}

func (p *paper) Value(contact, field string) (string, bool) {
	last, value := "", ""
	for key, e := range p.of(contact, field) {
		if key > last {
			last, value = key, e.Value
		}
	}
	return value, last != ""
}

func (p *paper) Edits() []op.Edit {
	out := map[string]op.Edit{}
	for d, e := range p.edits {
		out[fmt.Sprintf("%d %020d", d.Dev, d.N)] = e
	}
	var all []op.Edit
	for _, key := range slices.Sorted(maps.Keys(out)) {
		all = append(all, out[key])
	}
	return all
}

func (p *paper) Vec() vec.Vec {
	var v vec.Vec
	for dev := range v {
		for {
			if _, there := p.edits[api.Dot{Dev: dev, N: v[dev] + 1}]; !there {
				break
			}
			v[dev]++
		}
	}
	return v
}

func (p *paper) Next(dev int) (api.Dot, vec.Vec) {
	v := p.Vec()
	for i := range v {
		if i == dev {
			return api.Dot{Dev: i, N: 1 + v[i]}, v
		}
	}
	return api.Dot{}, vec.Vec{}
}

// of is a book of edits, of which none may be refused.
func of(t *testing.T, edits ...op.Edit) *book.Book {
	t.Helper()
	b := book.New()
	for _, e := range edits {
		if err := b.Add(e); err != api.OK {
			t.Fatalf("P17.1: Add of %+v: %d", e, err)
		}
	}
	return b
}

// written is what paper tells of edits, of which none may be refused.
func written(t *testing.T, edits ...op.Edit) *paper {
	t.Helper()
	p := &paper{}
	for _, e := range edits {
		if err := p.Add(e); err != api.OK {
			t.Fatalf("the test reckons %+v wrongly: %d", e, err)
		}
	}
	return p
}

// names are asked for beside those that are there: no contact nor field of these tests has them.
func names() []string {
	return []string{"", "x", "no one", "an", "ann\x00", "\x80", "\xff", "tel\xe9", strings.Repeat("n", 41)}
}

// tells fails where a book tells something else than paper does of edits.
func tells(t *testing.T, what string, b *book.Book, edits ...op.Edit) {
	t.Helper()
	if got, want := told(b, names()...), told(written(t, edits...), names()...); got != want {
		t.Errorf("P17.1: %s: %s", what, unlike(got, want))
	}
}

// list fails where a list is not just of these.
func list(t *testing.T, what string, got []string, want ...string) {
	t.Helper()
	if !slices.Equal(got, want) {
		t.Errorf("P17.1: %s: %q, not %q", what, got, want)
	}
}

// last fails where Value tells something else than these.
func last(t *testing.T, b *book.Book, contact, field, want string, ok bool) {
	t.Helper()
	if got, there := b.Value(contact, field); got != want || there != ok {
		t.Errorf("P17.1: Value of %q, %q: %q, %v, not %q, %v", contact, field, got, there, want, ok)
	}
}

// dice are numbers drawn with a seed.
type dice uint64

func (d *dice) draw(n int) int {
	*d = *d*6364136223846793005 + 1442695040888963407
	return int(uint64(*d) >> 33 % uint64(n))
}

// shuffled are edits in another order, some of them told again.
func (d *dice) shuffled(edits []op.Edit) []op.Edit {
	out := slices.Clone(edits)
	for i := range out {
		j := i + d.draw(len(out)-i)
		out[i], out[j] = out[j], out[i]
	}
	for range d.draw(len(edits) + 1) {
		out = slices.Insert(out, d.draw(len(out)+1), edits[d.draw(len(edits))])
	}
	return out
}
