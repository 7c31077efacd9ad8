package head_test

import (
	"testing"

	"bandbox/api"
	"bandbox/head"
	"bandbox/vec"
)

// compared is, reckoned in another way, what Cmp is to answer.
func compared(a, b head.Head) int {
	var less, more, unlike int
	for i := 7; i >= 0; i-- {
		switch {
		case a.Vec[i] < b.Vec[i]:
			less = 1
		case a.Vec[i] > b.Vec[i]:
			more = 1
		case a.Vec[i] >= 1 && string(a.Tips[i][:]) != string(b.Tips[i][:]):
			unlike = 1
		}
	}
	if unlike > 0 {
		return 4
	}
	return []int{0, -1, 1, 2}[less+2*more]
}

// turned is what Cmp answers the other way round.
func turned(c int) int {
	if c == 1 || c == -1 {
		return -c
	}
	return c
}

// cmp fails where Cmp tells something else, in either order.
func cmp(t *testing.T, what string, a, b head.Head, want int) {
	t.Helper()
	if compared(a, b) != want {
		t.Fatalf("the test reckons %s wrongly: %d, not %d", what, compared(a, b), want)
	}
	if got := head.Cmp(a, b); got != want {
		t.Errorf("P20.1: Cmp, %s: %d, not %d, of %v and %v", what, got, want, a, b)
	}
	if got := head.Cmp(b, a); got != turned(want) {
		t.Errorf("P20.1: Cmp, %s, the other way round: %d, not %d, of %v and %v", what, got, turned(want), b, a)
	}
}

func TestTheChaptersExample(t *testing.T) {
	a := head.Head{Vec: vec.Vec{3}, Tips: [8]api.Word{{1}}}
	b := head.Head{Vec: vec.Vec{3}, Tips: [8]api.Word{{2}}}
	cmp(t, "3 of device 0 and unlike tips", a, b, 4)
	a, e := head.Make(seed(1), 1, a.Vec, a.Tips)
	b, f := head.Make(seed(2), 2, b.Vec, b.Tips)
	if e != api.OK || f != api.OK {
		t.Errorf("P20.1: Make: %d, %d", e, f)
	}
	cmp(t, "3 of device 0 and unlike tips, signed", a, b, 4)
}

// others are numbers for seven devices and those of another one, beside which vec's Cmp says each of its answers.
func others() map[int][2]vec.Vec {
	return map[int][2]vec.Vec{
		0:  {{1, 2, 3, 4, 5, 6, 7, 8}, {1, 2, 3, 4, 5, 6, 7, 8}},
		-1: {{1, 2, 3, 4, 5, 6, 7, 8}, {1, 9, 9, 4, 5, 9, 9, 8}},
		1:  {{9, 2, 9, 9, 5, 6, 9, 9}, {1, 2, 3, 4, 5, 6, 7, 8}},
		2:  {{1, 9, 3, 4, 9, 6, 7, 9}, {9, 2, 9, 4, 5, 9, 7, 8}},
	}
}

// both are two heads with those numbers and tips that are alike.
func both(vs [2]vec.Vec) (a, b head.Head) {
	a, b = head.Head{Dev: 1, Vec: vs[0]}, head.Head{Dev: 1, Vec: vs[1]}
	for i := range 8 {
		a.Tips[i], b.Tips[i] = api.Word{byte(i), 7}, api.Word{byte(i), 7}
	}
	return a, b
}

func TestCmpWithTipsThatAreAlike(t *testing.T) {
	for want, vs := range others() {
		a, b := both(vs)
		cmp(t, "tips that are alike", a, b, want)
		if got := vec.Cmp(vs[0], vs[1]); got != want {
			t.Errorf("the test's numbers are others: %d, not %d", got, want)
		}
	}
	cmp(t, "nothing at all", head.Head{}, head.Head{}, 0)
}

// Of one device they have as many, and unlike tips: 4, whatever the others say.
func TestCmpOfEachDeviceAlone(t *testing.T) {
	for i := range 8 {
		for _, vs := range others() {
			for _, n := range []int64{1, 2, 3, 127, 128, most, most + 1, 1<<63 - 1} {
				for _, where := range []int{0, 15, 31} {
					a, b := both(vs)
					a.Vec[i], b.Vec[i] = n, n
					b.Tips[i][where] ^= 1
					cmp(t, "as many, unlike tips", a, b, 4)
				}
			}
		}
	}
}

// Where neither has any, or the numbers are unlike, the tips say nothing.
func TestCmpWhereTipsDoNotCount(t *testing.T) {
	for i := range 8 {
		for _, vs := range others() {
			for _, n := range []int64{0, -1, -2, -1 << 63} {
				for _, where := range []int{0, 31} {
					a, b := both(vs)
					a.Vec[i], b.Vec[i] = n, n
					want := compared(a, b)
					b.Tips[i][where] ^= 1
					cmp(t, "as many, none", a, b, want)
				}
			}
			for _, n := range [][2]int64{{1, 2}, {2, 1}, {0, 1}, {1, 0}, {-1, 1}, {1, -1}, {5, most}, {most, most + 1}} {
				for _, where := range []int{0, 31} {
					a, b := both(vs)
					a.Vec[i], b.Vec[i] = n[0], n[1]
					want := compared(a, b)
					b.Tips[i][where] ^= 0x80
					cmp(t, "unlike numbers, unlike tips", a, b, want)
					if want == 4 {
						t.Errorf("the test is no test: %v and %v", a, b)
					}
				}
			}
		}
	}
}

// Who says it, and the signature, are not looked at.
func TestCmpOfUnlikeDevAndSig(t *testing.T) {
	for want, vs := range others() {
		a, b := both(vs)
		for _, dev := range devs() {
			b.Dev = dev
			cmp(t, "unlike Dev", a, b, want)
		}
		b.Dev = a.Dev
		for i := range 64 {
			b.Sig[i] ^= 1
			cmp(t, "unlike Sig", a, b, want)
		}
		b.Tips[4][0] ^= 1
		if b.Vec[4] = a.Vec[4]; compared(a, b) != 4 {
			t.Errorf("the test is no test")
		}
		cmp(t, "unlike Sig, and a tip", a, b, 4)
	}
}

func TestCmpOfAnyTwo(t *testing.T) {
	l := all()
	for i, a := range l {
		cmp(t, "itself", a, a, 0)
		for _, b := range l[i%40:][:40] {
			cmp(t, "any two", a, b, compared(a, b))
		}
	}
}

func TestCmpOfDrawnOnes(t *testing.T) {
	d := roll(2002)
	answers := map[int]int{}
	for range 60000 {
		a, b := head.Head{Dev: d.next(8)}, head.Head{Dev: d.next(8)}
		steps, tips := 1+d.next(40), 1+d.next(60)
		for i := range 8 {
			a.Vec[i] = int64(d.next(5) - 1)
			b.Vec[i] = a.Vec[i] + int64(1/(1+d.next(steps))*(d.next(3)-1))
			a.Tips[i] = api.Word{byte(d.next(2))}
			b.Tips[i] = a.Tips[i]
			b.Tips[i][d.next(32)] ^= byte(1 / (1 + d.next(tips)))
		}
		want := compared(a, b)
		answers[want]++
		cmp(t, "drawn by the seed 2002", a, b, want)
	}
	for _, c := range []int{0, -1, 1, 2, 4} {
		if answers[c] < 1000 {
			t.Errorf("the test is no test: %d is answered %d times", c, answers[c])
		}
	}
}
