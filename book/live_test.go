package book_test

import (
	"slices"
	"strings"
	"testing"

	"bandbox/op"
	"bandbox/vec"
)

// both hands a book to a check, once with the edits as they are, once the other way round.
func both(t *testing.T, edits []op.Edit, check func(what string, edits ...op.Edit)) {
	t.Helper()
	check("as they are", edits...)
	back := slices.Clone(edits)
	slices.Reverse(back)
	check("the other way round", back...)
}

// all fails where All of ann's tel is not just of these, in whichever order the edits come.
func all(t *testing.T, what string, edits []op.Edit, want ...string) {
	t.Helper()
	both(t, edits, func(how string, edits ...op.Edit) {
		t.Helper()
		b := of(t, edits...)
		list(t, what+", "+how, b.All("ann", "tel"), want...)
		tells(t, what+", "+how, b, edits...)
	})
}

func TestOneThatHasSeenAnother(t *testing.T) {
	five := sets(0, 1, vec.Vec{}, "ann", "tel", "5", 9)
	saw := vec.Vec{1}
	all(t, "alone", []op.Edit{five}, "5")
	all(t, "of its field", []op.Edit{five, sets(1, 1, saw, "ann", "tel", "6", 1)}, "6")
	all(t, "of its field, by the same device", []op.Edit{five, sets(0, 2, saw, "ann", "tel", "6", 1)}, "6")
	all(t, "of another field", []op.Edit{five, sets(1, 1, saw, "ann", "mail", "6", 1)}, "5")
	all(t, "of another contact", []op.Edit{five, sets(1, 1, saw, "bob", "tel", "6", 1)}, "5")
	all(t, "of a field that begins so", []op.Edit{five, sets(1, 1, saw, "ann", "tel2", "6", 1)}, "5")
	all(t, "of a contact that begins so", []op.Edit{five, sets(1, 1, saw, "anna", "tel", "6", 1)}, "5")
	all(t, "of a field in other letters", []op.Edit{five, sets(1, 1, saw, "ann", "Tel", "6", 1)}, "5")
	all(t, "of its contact, as a field", []op.Edit{five, sets(1, 1, saw, "tel", "ann", "6", 1)}, "5")
	all(t, "that removes its contact", []op.Edit{five, removes(1, 1, saw, "ann", 1)})
	all(t, "that removes its contact, by the same device", []op.Edit{five, removes(0, 2, saw, "ann", 1)})
	all(t, "that removes another contact", []op.Edit{five, removes(1, 1, saw, "bob", 1)}, "5")
	all(t, "that removes a contact of its field's name", []op.Edit{five, removes(1, 1, saw, "tel", 1)}, "5")
	all(t, "that sets the same", []op.Edit{five, sets(1, 1, saw, "ann", "tel", "5", 9)}, "5")
}

func TestOnesThatHaveNotSeenOneAnother(t *testing.T) {
	five := sets(0, 1, vec.Vec{}, "ann", "tel", "5", 9)
	all(t, "of one field", []op.Edit{five, sets(1, 1, vec.Vec{}, "ann", "tel", "6", 10)}, "5", "6")
	all(t, "that have seen others", []op.Edit{five, sets(1, 1, vec.Vec{0, 0, 9, 9, 9, 9, 9, 9}, "ann", "tel", "6", 10)}, "5", "6")
	all(t, "of which one removes", []op.Edit{five, removes(1, 1, vec.Vec{0, 0, 9}, "ann", 99)}, "5")
	four := sets(0, 2, vec.Vec{}, "ann", "tel", "4", 3)
	all(t, "one of its device ahead was seen", []op.Edit{five, four, sets(1, 1, vec.Vec{1}, "ann", "tel", "6", 1)}, "6", "4")
	all(t, "one that removes has seen the one ahead", []op.Edit{five, four, removes(1, 1, vec.Vec{1}, "ann", 1)}, "4")
	three := sets(2, 1, vec.Vec{}, "ann", "tel", "3", 3)
	all(t, "three", []op.Edit{five, sets(1, 1, vec.Vec{}, "ann", "tel", "6", 1), three}, "6", "3", "5")
	all(t, "two, and one that has seen one of them", []op.Edit{five, three, sets(1, 1, vec.Vec{0, 0, 1}, "ann", "tel", "6", 1)}, "6", "5")
	all(t, "two, and one that has seen both", []op.Edit{five, three, sets(1, 1, vec.Vec{1, 0, 1}, "ann", "tel", "6", 1)}, "6")
}

// What ends others is not live itself, if it is of Kind 2, and need not be, if it is of Kind 1.
func TestWhatEndsNeedNotBeLive(t *testing.T) {
	five := sets(0, 1, vec.Vec{}, "ann", "tel", "5", 9)
	six := sets(1, 1, vec.Vec{1}, "ann", "tel", "6", 8)
	all(t, "one that is ended by another one's hand", []op.Edit{five, six, sets(2, 1, vec.Vec{0, 1}, "ann", "tel", "7", 7)}, "7")
	all(t, "one that is ended by what removes, which has not seen the first", []op.Edit{five, six, removes(2, 1, vec.Vec{0, 1}, "ann", 7)})
	all(t, "a removal that is seen by what sets anew", []op.Edit{five, removes(1, 1, vec.Vec{1}, "ann", 1), sets(2, 1, vec.Vec{0, 1}, "ann", "tel", "7", 7)}, "7")
	all(t, "a removal that is seen by another removal", []op.Edit{five, removes(1, 1, vec.Vec{1}, "ann", 1), removes(2, 1, vec.Vec{0, 1}, "ann", 1)})
	all(t, "what is not there ends nothing", []op.Edit{five, sets(2, 1, vec.Vec{0, 1}, "bob", "tel", "7", 7)}, "5")
}

func TestOneThatCameBehindWhatEndsIt(t *testing.T) {
	b := of(t, removes(1, 1, vec.Vec{2, 0, 1}, "ann", 0))
	list(t, "Contacts of a removal alone", b.Contacts())
	for _, e := range []op.Edit{sets(0, 2, vec.Vec{}, "ann", "tel", "2", 9), sets(0, 1, vec.Vec{}, "ann", "mail", "1", 9), sets(2, 1, vec.Vec{}, "ann", "tel", "3", most)} {
		if err := b.Add(e); err != 0 {
			t.Fatalf("P17.1: Add of %+v: %d", e, err)
		}
		list(t, "Contacts", b.Contacts())
		list(t, "Fields", b.Fields("ann"))
		list(t, "All", b.All("ann", e.Field))
		last(t, b, "ann", e.Field, "", false)
	}
	b.Add(sets(0, 3, vec.Vec{}, "ann", "tel", "4", 1))
	list(t, "All of one that was not seen", b.All("ann", "tel"), "4")
}

// A removal ends what it has seen of its contact, whatever the field; what it has not seen stays.
func TestARemovalAmongFields(t *testing.T) {
	edits := []op.Edit{
		sets(0, 1, vec.Vec{}, "ann", "tel", "1", 1),
		sets(0, 2, vec.Vec{}, "ann", "mail", "2", 1),
		sets(0, 3, vec.Vec{}, "ann", "fax", "3", 1),
		sets(0, 4, vec.Vec{}, "bob", "fax", "4", 1),
		removes(3, 1, vec.Vec{2}, "ann", 5),
	}
	both(t, edits, func(how string, edits ...op.Edit) {
		b := of(t, edits...)
		list(t, "Contacts, "+how, b.Contacts(), "ann", "bob")
		list(t, "Fields, "+how, b.Fields("ann"), "fax")
		list(t, "Fields of another, "+how, b.Fields("bob"), "fax")
		last(t, b, "ann", "tel", "", false)
		last(t, b, "ann", "mail", "", false)
		last(t, b, "ann", "fax", "3", true)
		tells(t, how, b, edits...)
		b.Add(removes(3, 2, vec.Vec{3}, "ann", 0))
		list(t, "Contacts, when the last live one is gone, "+how, b.Contacts(), "bob")
		list(t, "Fields, when the last live one is gone, "+how, b.Fields("ann"))
		last(t, b, "ann", "fax", "", false)
		b.Add(removes(4, 1, vec.Vec{9, 9, 9, 9}, "bob", 0))
		list(t, "Contacts, when all are gone, "+how, b.Contacts())
		b.Add(sets(4, 2, vec.Vec{}, "ann", "tel", "7", 0))
		list(t, "Contacts, when one is there anew, "+how, b.Contacts(), "ann")
	})
}

func TestAllByTimeDevAndNumber(t *testing.T) {
	edits := []op.Edit{
		sets(7, most, vec.Vec{}, "ann", "tel", "a", 0),
		sets(0, 9, vec.Vec{}, "ann", "tel", "b", 1),
		sets(3, 2, vec.Vec{}, "ann", "tel", "c", 1),
		sets(5, 1, vec.Vec{}, "ann", "tel", "d", 1),
		sets(4, 1, vec.Vec{}, "ann", "tel", "e", 10),
		sets(1, 1, vec.Vec{}, "ann", "tel", "f", most-1),
		sets(2, 1, vec.Vec{}, "ann", "tel", "g", most),
		sets(6, 1, vec.Vec{}, "ann", "tel", "h", most),
	}
	d := dice(3)
	for range 30 {
		b := of(t, d.shuffled(edits)...)
		list(t, "All", b.All("ann", "tel"), "a", "b", "c", "d", "e", "f", "g", "h")
		last(t, b, "ann", "tel", "h", true)
	}
}

// A device's own edit has seen all that it did ahead, whatever their Times: so no two of one device are live on one
// field, and All never comes to order two by N.
func TestALaterTimeDoesNotKeepWhatWasSeen(t *testing.T) {
	all(t, "one of a later Time", []op.Edit{sets(0, 1, vec.Vec{}, "ann", "tel", "5", most), sets(0, 2, vec.Vec{}, "ann", "tel", "6", 0)}, "6")
	all(t, "one of the same Time", []op.Edit{sets(0, 1, vec.Vec{}, "ann", "tel", "5", 4), sets(0, 2, vec.Vec{}, "ann", "tel", "6", 4)}, "6")
	all(t, "a gap between them", []op.Edit{sets(0, 1, vec.Vec{}, "ann", "tel", "5", 4), sets(0, 9, vec.Vec{}, "ann", "tel", "6", 4)}, "6")
}

func TestValuesAreToldAsOftenAsTheyAreThere(t *testing.T) {
	all(t, "alike ones", []op.Edit{sets(0, 1, vec.Vec{}, "ann", "tel", "5", 1), sets(1, 1, vec.Vec{}, "ann", "tel", "6", 2), sets(2, 1, vec.Vec{}, "ann", "tel", "5", 3), sets(3, 1, vec.Vec{}, "ann", "tel", "5", 3)}, "5", "6", "5", "5")
	edits := []op.Edit{sets(0, 1, vec.Vec{}, "ann", "tel", "5", 1), sets(1, 1, vec.Vec{}, "ann", "tel", "5", 1)}
	b := of(t, append(edits, edits...)...)
	list(t, "of edits that were told again", b.All("ann", "tel"), "5", "5")
	list(t, "Contacts", b.Contacts(), "ann")
	list(t, "Fields", b.Fields("ann"), "tel")
}

func TestAnEmptyValue(t *testing.T) {
	b := of(t, sets(0, 1, vec.Vec{}, "ann", "tel", "", 5))
	list(t, "All", b.All("ann", "tel"), "")
	last(t, b, "ann", "tel", "", true)
	list(t, "Contacts", b.Contacts(), "ann")
	list(t, "Fields", b.Fields("ann"), "tel")
	b.Add(sets(1, 1, vec.Vec{}, "ann", "tel", "5", 4))
	b.Add(sets(2, 1, vec.Vec{}, "ann", "tel", "", 3))
	list(t, "All", b.All("ann", "tel"), "", "5", "")
	last(t, b, "ann", "tel", "", true)
	b.Add(sets(1, 2, vec.Vec{1}, "ann", "tel", "6", 4))
	list(t, "All", b.All("ann", "tel"), "", "6")
	last(t, b, "ann", "tel", "6", true)
}

func TestContactsAndFieldsRise(t *testing.T) {
	rising := []string{"!", "\"", "0", "1", "10", "2", "A", "Ann", "a", "an", "ann", "ann!", "anna", "ann~", "b", "z", "~", "~~"}
	d := dice(8)
	for range 10 {
		var contacts, fields []op.Edit
		for i, name := range rising {
			contacts = append(contacts, sets(i%8, int64(i)+1, vec.Vec{}, name, "tel", "5", 1), sets((i+1)%8, int64(i)+100, vec.Vec{}, name, "mail", "6", 1))
			fields = append(fields, sets(i%8, int64(i)+1, vec.Vec{}, "ann", name, "5", 1), sets((i+1)%8, int64(i)+100, vec.Vec{}, "bob", name, "5", 1))
		}
		b := of(t, d.shuffled(contacts)...)
		list(t, "Contacts", b.Contacts(), rising...)
		for _, name := range rising {
			list(t, "Fields of "+name, b.Fields(name), "mail", "tel")
		}
		b = of(t, d.shuffled(fields)...)
		list(t, "Contacts", b.Contacts(), "ann", "bob")
		list(t, "Fields", b.Fields("ann"), rising...)
		for _, name := range rising {
			list(t, "All of "+name, b.All("ann", name), "5")
		}
	}
}

func TestWhatIsNotThere(t *testing.T) {
	long := strings.Repeat("n", 40)
	b := of(t, sets(0, 1, vec.Vec{}, "ann", "tel", "5", 1), sets(1, 1, vec.Vec{}, long, long, "6", 1), removes(2, 1, vec.Vec{}, "bob", 1))
	before := told(b)
	for _, name := range []string{"", "a", "an", "anna", "Ann", "ANN", "ann ", " ann", "ann\x00", "ann\x80", "\xff", "\x80\xbf", "tel", "5", "bob", "zoe", long[1:], long + "n", strings.Repeat("n", 1<<16)} {
		list(t, "Fields of what is not there", b.Fields(name))
		for _, field := range []string{"tel", "", name, "\xff"} {
			list(t, "All of what is not there", b.All(name, field))
			last(t, b, name, field, "", false)
		}
	}
	for _, name := range []string{"", "te", "tels", "Tel", "tel\x00", "tel\x80", "\xfftel", "ann", "5", long} {
		list(t, "All of a field that is not there", b.All("ann", name))
		last(t, b, "ann", name, "", false)
	}
	if told(b) != before {
		t.Errorf("R3: asking turned a book: %s", unlike(told(b), before))
	}
	list(t, "All of what is there", b.All(long, long), "6")
	list(t, "Fields of what is there", b.Fields(long), long)
}
