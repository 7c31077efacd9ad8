package know_test

import (
	"slices"
	"testing"

	"bandbox/know"
)

// whole is a list at the front of a longer row, so that it has spare room behind it: the row shows that, too.
func whole[T any](list []T, filling T) (row, part []T) {
	row = append(slices.Clone(list), slices.Repeat([]T{filling}, 600)...)
	return row, row[:len(list)]
}

// scribble writes into a list, its spare room too, and puts more behind it.
func scribble[T any](list []T, what T) {
	_ = append(list, what, what, what)
	list = list[:cap(list)]
	for i := range list {
		list[i] = what
	}
}

// some are tables, and what is known of each; some may not be.
func some() (tables [][]know.Thing, known [][]int) {
	d := roll(1806)
	for _, n := range []int{0, 1, 2, 5, 8, 16, 33, 500} {
		tables = append(tables, d.table(n))
		known = append(known, d.places(n))
	}
	things := secs(2, two(0, 1), box(0, 1), key(1, 7), key(1, 7))
	for _, k := range [][]int{nil, {}, {2}, {3, 0}, {0, 1, 2, 3, 4, 5}, {5, 4, 3, 2, 1, 0}, {9, -1, 4, 4}} {
		tables = append(tables, things)
		known = append(known, k)
	}
	tables = append(tables, []know.Thing{{}, {Kind: 5}}, secs(501), secs(2, two(0, 3)))
	return tables, append(known, []int{0, 1}, []int{500, 0}, []int{0, 1, 2})
}

// told is all that is told of a table, with some known.
func told(things []know.Thing, known []int) (all []int, other [5]bool) {
	other = [5]bool{know.Good(things), know.Can(things, 1, known...), know.Can(things, -1, known...), know.Same(things, 4, 5), know.Same(things, 0, 1)}
	return know.All(things, known...), other
}

func TestNothingHandedInIsChanged(t *testing.T) {
	tables, known := some()
	for i := range tables {
		row, things := whole(tables[i], know.Thing{Kind: 4, A: 1, B: 2, N: 3})
		line, places := whole(known[i], 1)
		rowBefore, lineBefore := slices.Clone(row), slices.Clone(line)
		told(things, places)
		if !slices.Equal(row, rowBefore) {
			t.Errorf("R4: table %d was changed: %v, not %v", i, short(row), short(rowBefore))
		}
		if !slices.Equal(line, lineBefore) {
			t.Errorf("R4: what is known of table %d was changed: %v, not %v", i, line, lineBefore)
		}
	}
}

// What was told stays, whatever becomes of what was handed in.
func TestNothingHandedInIsKept(t *testing.T) {
	tables, known := some()
	for i := range tables {
		row, things := whole(tables[i], sec())
		line, places := whole(known[i], 1)
		all, other := told(things, places)
		kept := slices.Clone(all)
		scribble(row, know.Thing{Kind: 9, A: -1})
		scribble(line, -77)
		if !slices.Equal(all, kept) {
			t.Errorf("R4: an answer of All turned with what was handed in: %v, not %v", all, kept)
		}
		if again, others := told(tables[i], known[i]); !slices.Equal(again, kept) || others != other {
			t.Errorf("R5: table %d: %v, %v, then %v, %v", i, kept, other, again, others)
		}
	}
}

func TestAnswersMayBeWrittenInto(t *testing.T) {
	tables, known := some()
	for i := range tables {
		row, things := whole(tables[i], sec())
		line, places := whole(known[i], 1)
		rowBefore, lineBefore := slices.Clone(row), slices.Clone(line)
		one, two := know.All(things, places...), know.All(things, places...)
		kept := slices.Clone(two)
		three := know.All(things, one...) // all that is known is handed in, and told again
		threeKept := slices.Clone(three)
		scribble(one, -55)
		if !slices.Equal(two, kept) || !slices.Equal(three, threeKept) {
			t.Errorf("R4: writing into an answer turned another one: %v, not %v; %v, not %v", two, kept, three, threeKept)
		}
		scribble(two, 1)
		scribble(three, 0)
		if !slices.Equal(row, rowBefore) || !slices.Equal(line, lineBefore) {
			t.Errorf("R4: writing into an answer turned what was handed in: table %d", i)
		}
		if got := know.All(things, places...); !slices.Equal(got, kept) {
			t.Errorf("R5: table %d: %v behind writing into answers, not %v", i, got, kept)
		}
	}
}

// What was answered ahead of other calls stays as it was.
func TestAnswersStay(t *testing.T) {
	tables, known := some()
	var answers, kept [][]int
	for range 2 {
		for i := range tables {
			got := know.All(tables[i], known[i]...)
			answers, kept = append(answers, got), append(kept, slices.Clone(got))
		}
	}
	for i := range answers {
		if !slices.Equal(answers[i], kept[i]) {
			t.Errorf("R4: answer %d turned: %v, not %v", i, answers[i], kept[i])
		}
	}
	for i := range tables {
		if j := i + len(tables); !slices.Equal(answers[i], answers[j]) {
			t.Errorf("R5: table %d: %v, then %v", i, answers[i], answers[j])
		}
	}
}

func TestNilAndAnEmptyListAreOne(t *testing.T) {
	things := secs(2, two(0, 1))
	for _, none := range [][]int{nil, {}, make([]int, 0, 9)} {
		if got := know.All(things, none...); len(got) != 0 {
			t.Errorf("R4: All of nothing known: %v", got)
		}
		if know.Can(things, 0, none...) {
			t.Errorf("R4: Can of nothing known")
		}
	}
	for _, none := range [][]know.Thing{nil, {}, make([]know.Thing, 0, 9)} {
		if !know.Good(none) || len(know.All(none, 0)) != 0 || know.Can(none, 0, 0) || know.Same(none, 0, 0) {
			t.Errorf("R4: of a table without things: %v", know.Good(none))
		}
	}
}

// What a call answers hangs on its arguments alone: the same again, whatever was asked between.
func TestTheSameAgain(t *testing.T) {
	tables, known := some()
	for i := range tables {
		all, other := told(tables[i], known[i])
		for j := range tables {
			told(tables[j], known[i])
			told(tables[i], known[j])
		}
		if again, others := told(tables[i], known[i]); !slices.Equal(again, all) || others != other {
			t.Errorf("R5: table %d: %v, %v, then %v, %v", i, all, other, again, others)
		}
	}
}
