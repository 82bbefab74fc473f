package box_test

import (
	"math"
	"slices"
	"testing"

	"spanmeadow/api"
	"spanmeadow/box"
	"spanmeadow/plain"
)

// most is the greatest number that may be.
const most = api.MaxNumber

// behind is what is laid behind a list's length, and over what a call told, to tell whether memory is shared.
const behind = 4711

// sides of a box, by their ends.
type sides [][2]int

// box of these sides; of none nil stays nil, so that it is asked too.
func (s sides) box() []api.Span {
	if s == nil {
		return nil
	}
	b := make([]api.Span, len(s))
	for i, ends := range s {
		b[i] = api.Span{Lo: ends[0], Hi: ends[1]}
	}
	return b
}

// twoBoxes is a call that makes a box of two.
type twoBoxes = func(a, b []api.Span) ([]api.Span, error)

// goodBoxes have nothing wrong with them, and each another number of sides.
var goodBoxes = []sides{
	{{-1000, 2000}},
	{{-1000, 2000}, {5, 5}},
	{{-1000, 2000}, {5, 5}, {-most, most}},
}

// wrongBoxes are boxes with a fault, and which; where several are wrong with one, what is told first.
var wrongBoxes = []struct {
	b    sides
	told api.Errno
}{
	{nil, api.ErrNone},
	{sides{}, api.ErrNone},
	{sides{{0, 1}, {0, 1}, {0, 1}}[:0], api.ErrNone},
	{sides{{0, 1}, {0, 1}, {0, 1}, {0, 1}}, api.ErrFull},
	{sides{{-most, most}, {0, 0}, {-5, -3}, {3, 5}, {1, 1}}, api.ErrFull},
	{make(sides, 1000), api.ErrFull},
	// One side alone, at each place, by either end.
	{sides{{1, 0}}, api.ErrShape},
	{sides{{most, -most}}, api.ErrShape},
	{sides{{-most + 1, -most}}, api.ErrShape},
	{sides{{0, most + 1}}, api.ErrRange},
	{sides{{-most - 1, 0}}, api.ErrRange},
	{sides{{math.MinInt, math.MaxInt}}, api.ErrRange},
	{sides{{math.MinInt, math.MinInt}}, api.ErrRange},
	{sides{{math.MaxInt, math.MaxInt}}, api.ErrRange},
	{sides{{0, -1}, {0, 1}}, api.ErrShape},
	{sides{{0, 1}, {0, -1}}, api.ErrShape},
	{sides{{0, math.MaxInt}, {0, 1}}, api.ErrRange},
	{sides{{0, 1}, {math.MinInt, 1}}, api.ErrRange},
	{sides{{-1, -2}, {0, 1}, {0, 1}}, api.ErrShape},
	{sides{{0, 1}, {-1, -2}, {0, 1}}, api.ErrShape},
	{sides{{0, 1}, {0, 1}, {-1, -2}}, api.ErrShape},
	{sides{{-most - 1, 1}, {0, 1}, {0, 1}}, api.ErrRange},
	{sides{{0, 1}, {0, most + 1}, {0, 1}}, api.ErrRange},
	{sides{{0, 1}, {0, 1}, {-most - 1, 1}}, api.ErrRange},
	{sides{{0, 1}, {0, 1}, {0, most + 1}}, api.ErrRange},
	// One side with both faults.
	{sides{{most + 1, 0}}, api.ErrRange},
	{sides{{0, 1}, {0, -most - 1}}, api.ErrRange},
	{sides{{0, 1}, {0, 1}, {math.MaxInt, math.MinInt}}, api.ErrRange},
	// Several sides: the first one's is told, whichever it is.
	{sides{{1, 0}, {0, most + 1}}, api.ErrShape},
	{sides{{0, most + 1}, {1, 0}}, api.ErrRange},
	{sides{{0, 1}, {1, 0}, {-most - 1, 0}}, api.ErrShape},
	{sides{{0, 1}, {-most - 1, 0}, {1, 0}}, api.ErrRange},
	{sides{{1, 0}, {0, 1}, {0, most + 1}}, api.ErrShape},
	{sides{{0, most + 1}, {0, 1}, {1, 0}}, api.ErrRange},
	{sides{{1, 0}, {math.MinInt, 0}, {0, math.MaxInt}}, api.ErrShape},
	// Too many, and some are wrong.
	{sides{{1, 0}, {0, 1}, {0, 1}, {0, 1}}, api.ErrFull},
	{sides{{0, 1}, {0, 1}, {0, 1}, {0, most + 1}}, api.ErrFull},
	{sides{{math.MaxInt, math.MinInt}, {1, 0}, {1, 0}, {1, 0}}, api.ErrFull},
}

// handed is a list for a call, with memory behind its length; unchanged tells whether all of it is as it was.
func handed[T comparable](l []T, after T) (list []T, unchanged func() bool) {
	if l == nil {
		return nil, func() bool { return true }
	}
	whole := append(slices.Clone(l), after, after)
	before := slices.Clone(whole)
	return whole[:len(l)], func() bool { return slices.Equal(whole, before) }
}

func handedBox(b []api.Span) ([]api.Span, func() bool) {
	return handed(b, api.Span{Lo: behind, Hi: behind + 1})
}

// spoil writes over all of a list's memory; where that changes another list, the two share it.
func spoil(b []api.Span) {
	all := b[:cap(b)]
	for i := range all {
		all[i] = api.Span{Lo: -behind, Hi: -behind}
	}
}

func checkCheck(t *testing.T, b []api.Span, told api.Errno) {
	t.Helper()
	list, unchanged := handedBox(b)
	if err := box.Check(list); plain.Told(err) != told {
		t.Errorf("Check(%v) = %v; want %v", b, err, told)
	}
	if !unchanged() {
		t.Errorf("Check(%v) changed what it was handed", b)
	}
}

func checkWithin(t *testing.T, a, b []api.Span, want bool, told api.Errno) {
	t.Helper()
	first, firstSame := handedBox(a)
	second, secondSame := handedBox(b)
	if got, err := box.Within(first, second); got != want || plain.Told(err) != told {
		t.Errorf("Within(%v, %v) = %v, %v; want %v, %v", a, b, got, err, want, told)
	}
	if !firstSame() || !secondSame() {
		t.Errorf("Within(%v, %v) changed what it was handed", a, b)
	}
}

func checkHas(t *testing.T, b []api.Span, x []int, want bool, told api.Errno) {
	t.Helper()
	list, listSame := handedBox(b)
	at, atSame := handed(x, behind)
	if got, err := box.Has(list, at); got != want || plain.Told(err) != told {
		t.Errorf("Has(%v, %v) = %v, %v; want %v, %v", b, x, got, err, want, told)
	}
	if !listSame() || !atSame() {
		t.Errorf("Has(%v, %v) changed what it was handed", b, x)
	}
}

func checkTwo(t *testing.T, name string, call twoBoxes, a, b, want []api.Span, told api.Errno) {
	t.Helper()
	first, firstSame := handedBox(a)
	second, secondSame := handedBox(b)
	got, err := call(first, second)
	if !slices.Equal(got, want) || plain.Told(err) != told {
		t.Errorf("%s(%v, %v) = %v, %v; want %v, %v", name, a, b, got, err, want, told)
	}
	if !firstSame() || !secondSame() {
		t.Errorf("%s(%v, %v) changed what it was handed", name, a, b)
	}
	spoil(got)
	if !firstSame() || !secondSame() {
		t.Errorf("%s(%v, %v) told what shares memory with what it was handed", name, a, b)
	}
}

func checkHalve(t *testing.T, b, first, second []api.Span, told api.Errno) {
	t.Helper()
	list, unchanged := handedBox(b)
	x, y, err := box.Halve(list)
	if !slices.Equal(x, first) || !slices.Equal(y, second) || plain.Told(err) != told {
		t.Errorf("Halve(%v) = %v, %v, %v; want %v, %v, %v", b, x, y, err, first, second, told)
	}
	if !unchanged() {
		t.Errorf("Halve(%v) changed what it was handed", b)
	}
	kept := slices.Clone(y)
	spoil(x)
	if !slices.Equal(y, kept) {
		t.Errorf("Halve(%v): the halves share memory", b)
	}
	spoil(y)
	if !unchanged() {
		t.Errorf("Halve(%v) told what shares memory with what it was handed", b)
	}
}

func TestCheck(t *testing.T) {
	for _, b := range []sides{
		// Below 0, above it, across it.
		{{-3000, -1000}},
		{{1000, 3000}},
		{{-1000, 2000}},
		{{-3000, -1000}, {1000, 3000}},
		{{-1000, 2000}, {-3000, -1000}},
		{{-3000, -1000}, {1000, 3000}, {-1000, 2000}},
		{{-1000, 2000}, {-1000, 2000}, {-1000, 2000}},
		// Of one number.
		{{0, 0}},
		{{7, 7}, {-7, -7}},
		{{-most, -most}, {0, 0}, {most, most}},
		// As far as may be.
		{{-most, most}},
		{{-most, most}, {-most, -most + 1}},
		{{most - 1, most}, {-most, 0}, {0, most}},
	} {
		checkCheck(t, b.box(), api.OK)
	}
}

func TestCheckWrong(t *testing.T) {
	for _, w := range wrongBoxes {
		checkCheck(t, w.b.box(), w.told)
	}
}

// pair is two boxes, whether the one is within the other, and the other within the one, and their Hull and Meet; the Meet is nil where nothing is in both.
type pair struct {
	a, b       sides
	aInB, bInA bool
	hull, meet sides
}

var pairs = []pair{
	// The same.
	{sides{{1000, 3000}}, sides{{1000, 3000}}, true, true, sides{{1000, 3000}}, sides{{1000, 3000}}},
	{sides{{-3000, -1000}, {-1, 2}}, sides{{-3000, -1000}, {-1, 2}}, true, true, sides{{-3000, -1000}, {-1, 2}}, sides{{-3000, -1000}, {-1, 2}}},
	{sides{{1, 9}, {-5, -2}, {-4, 4}}, sides{{1, 9}, {-5, -2}, {-4, 4}}, true, true, sides{{1, 9}, {-5, -2}, {-4, 4}}, sides{{1, 9}, {-5, -2}, {-4, 4}}},
	{sides{{7, 7}}, sides{{7, 7}}, true, true, sides{{7, 7}}, sides{{7, 7}}},
	{sides{{-most, most}, {-most, most}, {-most, most}}, sides{{-most, most}, {-most, most}, {-most, most}}, true, true, sides{{-most, most}, {-most, most}, {-most, most}}, sides{{-most, most}, {-most, most}, {-most, most}}},
	// Each reaches beyond the other: below 0, above it, across it.
	{sides{{-30, -10}}, sides{{-20, -5}}, false, false, sides{{-30, -5}}, sides{{-20, -10}}},
	{sides{{10, 30}}, sides{{5, 20}}, false, false, sides{{5, 30}}, sides{{10, 20}}},
	{sides{{-10, 20}}, sides{{-20, 10}}, false, false, sides{{-20, 20}}, sides{{-10, 10}}},
	{sides{{-30, -10}, {10, 30}}, sides{{-20, -5}, {5, 20}}, false, false, sides{{-30, -5}, {5, 30}}, sides{{-20, -10}, {10, 20}}},
	{sides{{-30, -10}, {10, 30}, {-10, 20}}, sides{{-20, -5}, {5, 20}, {-20, 10}}, false, false, sides{{-30, -5}, {5, 30}, {-20, 20}}, sides{{-20, -10}, {10, 20}, {-10, 10}}},
	// One within the other: by both ends, by one of them, and of one number.
	{sides{{2, 3}}, sides{{1, 4}}, true, false, sides{{1, 4}}, sides{{2, 3}}},
	{sides{{1, 3}}, sides{{1, 4}}, true, false, sides{{1, 4}}, sides{{1, 3}}},
	{sides{{2, 4}}, sides{{1, 4}}, true, false, sides{{1, 4}}, sides{{2, 4}}},
	{sides{{1, 1}}, sides{{1, 4}}, true, false, sides{{1, 4}}, sides{{1, 1}}},
	{sides{{4, 4}}, sides{{1, 4}}, true, false, sides{{1, 4}}, sides{{4, 4}}},
	{sides{{-3, -2}, {2, 3}}, sides{{-4, -1}, {-1, 4}}, true, false, sides{{-4, -1}, {-1, 4}}, sides{{-3, -2}, {2, 3}}},
	{sides{{-3, -2}, {2, 3}, {0, 0}}, sides{{-4, -1}, {-1, 4}, {-most, most}}, true, false, sides{{-4, -1}, {-1, 4}, {-most, most}}, sides{{-3, -2}, {2, 3}, {0, 0}}},
	{sides{{-most, -most}, {most, most}}, sides{{-most, 0}, {0, most}}, true, false, sides{{-most, 0}, {0, most}}, sides{{-most, -most}, {most, most}}},
	// One side in common, and within by the others: the first, the second, the third.
	{sides{{1, 4}, {2, 3}}, sides{{1, 4}, {1, 4}}, true, false, sides{{1, 4}, {1, 4}}, sides{{1, 4}, {2, 3}}},
	{sides{{2, 3}, {1, 4}}, sides{{1, 4}, {1, 4}}, true, false, sides{{1, 4}, {1, 4}}, sides{{2, 3}, {1, 4}}},
	{sides{{2, 3}, {2, 3}, {1, 4}}, sides{{1, 4}, {1, 4}, {1, 4}}, true, false, sides{{1, 4}, {1, 4}, {1, 4}}, sides{{2, 3}, {2, 3}, {1, 4}}},
	// One side in common, and the others reach beyond each other.
	{sides{{-5, 5}, {1, 3}}, sides{{-5, 5}, {2, 4}}, false, false, sides{{-5, 5}, {1, 4}}, sides{{-5, 5}, {2, 3}}},
	{sides{{1, 3}, {-5, 5}, {-3, -1}}, sides{{2, 4}, {-5, 5}, {-4, -2}}, false, false, sides{{1, 4}, {-5, 5}, {-4, -1}}, sides{{2, 3}, {-5, 5}, {-3, -2}}},
	// Within but for one side, by the lower end or the upper one: the first, the second, the third.
	{sides{{0, 3}, {2, 3}, {2, 3}}, sides{{1, 4}, {1, 4}, {1, 4}}, false, false, sides{{0, 4}, {1, 4}, {1, 4}}, sides{{1, 3}, {2, 3}, {2, 3}}},
	{sides{{2, 5}, {2, 3}, {2, 3}}, sides{{1, 4}, {1, 4}, {1, 4}}, false, false, sides{{1, 5}, {1, 4}, {1, 4}}, sides{{2, 4}, {2, 3}, {2, 3}}},
	{sides{{2, 3}, {0, 3}, {2, 3}}, sides{{1, 4}, {1, 4}, {1, 4}}, false, false, sides{{1, 4}, {0, 4}, {1, 4}}, sides{{2, 3}, {1, 3}, {2, 3}}},
	{sides{{2, 3}, {2, 5}, {2, 3}}, sides{{1, 4}, {1, 4}, {1, 4}}, false, false, sides{{1, 4}, {1, 5}, {1, 4}}, sides{{2, 3}, {2, 4}, {2, 3}}},
	{sides{{2, 3}, {2, 3}, {0, 3}}, sides{{1, 4}, {1, 4}, {1, 4}}, false, false, sides{{1, 4}, {1, 4}, {0, 4}}, sides{{2, 3}, {2, 3}, {1, 3}}},
	{sides{{2, 3}, {2, 3}, {2, 5}}, sides{{1, 4}, {1, 4}, {1, 4}}, false, false, sides{{1, 4}, {1, 4}, {1, 5}}, sides{{2, 3}, {2, 3}, {2, 4}}},
	// They touch in one number alone: in one side, in each.
	{sides{{1, 5}}, sides{{5, 9}}, false, false, sides{{1, 9}}, sides{{5, 5}}},
	{sides{{-5, 0}}, sides{{0, 5}}, false, false, sides{{-5, 5}}, sides{{0, 0}}},
	{sides{{-most, 0}, {1, 2}}, sides{{0, most}, {1, 2}}, false, false, sides{{-most, most}, {1, 2}}, sides{{0, 0}, {1, 2}}},
	{sides{{-9, -5}, {5, 9}}, sides{{-5, -1}, {1, 5}}, false, false, sides{{-9, -1}, {1, 9}}, sides{{-5, -5}, {5, 5}}},
	{sides{{-9, -5}, {5, 9}, {-1, 0}}, sides{{-5, -1}, {1, 5}, {0, 1}}, false, false, sides{{-9, -1}, {1, 9}, {-1, 1}}, sides{{-5, -5}, {5, 5}, {0, 0}}},
	// Nothing in both, just so and far: in one side alone, the first, the second, the third.
	{sides{{1, 4}}, sides{{5, 9}}, false, false, sides{{1, 9}}, nil},
	{sides{{-most, -most}}, sides{{most, most}}, false, false, sides{{-most, most}}, nil},
	{sides{{7, 7}}, sides{{8, 8}}, false, false, sides{{7, 8}}, nil},
	{sides{{-4, -1}, {1, 4}}, sides{{0, 3}, {1, 4}}, false, false, sides{{-4, 3}, {1, 4}}, nil},
	{sides{{-4, -1}, {1, 4}}, sides{{-4, -1}, {-4, 0}}, false, false, sides{{-4, -1}, {-4, 4}}, nil},
	{sides{{-4, -1}, {1, 4}, {-2, 2}}, sides{{0, 3}, {1, 4}, {-2, 2}}, false, false, sides{{-4, 3}, {1, 4}, {-2, 2}}, nil},
	{sides{{-4, -1}, {1, 4}, {-2, 2}}, sides{{-4, -1}, {5, 6}, {-2, 2}}, false, false, sides{{-4, -1}, {1, 6}, {-2, 2}}, nil},
	{sides{{-4, -1}, {1, 4}, {-2, 2}}, sides{{-4, -1}, {1, 4}, {3, most}}, false, false, sides{{-4, -1}, {1, 4}, {-2, most}}, nil},
	{sides{{-4, -1}, {1, 4}, {-2, 2}}, sides{{-3, -2}, {2, 3}, {-most, -3}}, false, false, sides{{-4, -1}, {1, 4}, {-most, 2}}, nil},
	// In several sides.
	{sides{{-4, -1}, {1, 4}, {-2, 2}}, sides{{1, 4}, {-4, -1}, {3, 5}}, false, false, sides{{-4, 4}, {-4, 4}, {-2, 5}}, nil},
	// The sides would go together, were they in another order.
	{sides{{1, 2}, {3, 4}}, sides{{3, 4}, {1, 2}}, false, false, sides{{1, 4}, {1, 4}}, nil},
}

func TestWithin(t *testing.T) {
	for _, p := range pairs {
		checkWithin(t, p.a.box(), p.b.box(), p.aInB, api.OK)
		checkWithin(t, p.b.box(), p.a.box(), p.bInA, api.OK)
	}
}

func TestHull(t *testing.T) {
	for _, p := range pairs {
		checkTwo(t, "Hull", box.Hull, p.a.box(), p.b.box(), p.hull.box(), api.OK)
		checkTwo(t, "Hull", box.Hull, p.b.box(), p.a.box(), p.hull.box(), api.OK)
	}
}

func TestMeet(t *testing.T) {
	for _, p := range pairs {
		told := api.OK
		if p.meet == nil {
			told = api.ErrNone
		}
		checkTwo(t, "Meet", box.Meet, p.a.box(), p.b.box(), p.meet.box(), told)
		checkTwo(t, "Meet", box.Meet, p.b.box(), p.a.box(), p.meet.box(), told)
	}
}

// checkTwoWrong asks each call of two boxes with something wrong.
func checkTwoWrong(t *testing.T, a, b sides, told api.Errno) {
	t.Helper()
	checkWithin(t, a.box(), b.box(), false, told)
	checkTwo(t, "Hull", box.Hull, a.box(), b.box(), nil, told)
	checkTwo(t, "Meet", box.Meet, a.box(), b.box(), nil, told)
}

// TestTwoWrong sees that what is wrong with a is told, then with b, also where they have not as many sides besides.
func TestTwoWrong(t *testing.T) {
	for _, w := range wrongBoxes {
		for _, g := range goodBoxes {
			checkTwoWrong(t, w.b, g, w.told)
			checkTwoWrong(t, g, w.b, w.told)
		}
		for _, v := range wrongBoxes {
			checkTwoWrong(t, w.b, v.b, w.told)
		}
	}
}

func TestTwoShape(t *testing.T) {
	for i, a := range goodBoxes {
		for j, b := range goodBoxes {
			if i != j {
				checkTwoWrong(t, a, b, api.ErrShape)
			}
		}
	}
	// Nothing would be in both as well.
	checkTwoWrong(t, sides{{0, 1}}, sides{{5, 6}, {0, 1}}, api.ErrShape)
	checkTwoWrong(t, sides{{0, 1}, {0, 1}, {0, 1}}, sides{{0, 1}, {5, 6}}, api.ErrShape)
}

// TestMeetWrong sees that what is wrong with a side is told even where nothing is in both in a side ahead of it.
func TestMeetWrong(t *testing.T) {
	for _, r := range []struct {
		a, b sides
		told api.Errno
	}{
		{sides{{0, 1}, {0, 1}}, sides{{5, 6}, {1, 0}}, api.ErrShape},
		{sides{{0, 1}, {0, 1}}, sides{{5, 6}, {0, most + 1}}, api.ErrRange},
		{sides{{0, 1}, {1, 0}}, sides{{5, 6}, {0, 1}}, api.ErrShape},
		{sides{{0, 1}, {0, 1}, {math.MinInt, 1}}, sides{{5, 6}, {0, 1}, {0, 1}}, api.ErrRange},
		{sides{{0, 1}, {0, 1}, {0, 1}}, sides{{0, 1}, {5, 6}, {0, math.MaxInt}}, api.ErrRange},
	} {
		checkTwo(t, "Meet", box.Meet, r.a.box(), r.b.box(), nil, r.told)
	}
}

func TestHas(t *testing.T) {
	for _, c := range []struct {
		b   sides
		x   []int
		has bool
	}{
		// In it, at either end, just outside.
		{sides{{1, 5}}, []int{3}, true},
		{sides{{1, 5}}, []int{1}, true},
		{sides{{1, 5}}, []int{5}, true},
		{sides{{1, 5}}, []int{0}, false},
		{sides{{1, 5}}, []int{6}, false},
		{sides{{-5, -1}}, []int{-3}, true},
		{sides{{-5, -1}}, []int{-5}, true},
		{sides{{-5, -1}}, []int{-1}, true},
		{sides{{-5, -1}}, []int{-6}, false},
		{sides{{-5, -1}}, []int{0}, false},
		{sides{{-5, 5}}, []int{0}, true},
		{sides{{0, 0}}, []int{0}, true},
		{sides{{0, 0}}, []int{1}, false},
		{sides{{0, 0}}, []int{-1}, false},
		// Just outside of one side alone.
		{sides{{1, 5}, {-5, -1}}, []int{5, -5}, true},
		{sides{{1, 5}, {-5, -1}}, []int{1, -1}, true},
		{sides{{1, 5}, {-5, -1}}, []int{0, -3}, false},
		{sides{{1, 5}, {-5, -1}}, []int{6, -3}, false},
		{sides{{1, 5}, {-5, -1}}, []int{3, -6}, false},
		{sides{{1, 5}, {-5, -1}}, []int{3, 0}, false},
		{sides{{1, 5}, {-5, -1}}, []int{-3, 3}, false},
		{sides{{1, 5}, {-5, -1}, {-2, 2}}, []int{3, -3, 0}, true},
		{sides{{1, 5}, {-5, -1}, {-2, 2}}, []int{1, -5, 2}, true},
		{sides{{1, 5}, {-5, -1}, {-2, 2}}, []int{5, -1, -2}, true},
		{sides{{1, 5}, {-5, -1}, {-2, 2}}, []int{0, -3, 0}, false},
		{sides{{1, 5}, {-5, -1}, {-2, 2}}, []int{6, -3, 0}, false},
		{sides{{1, 5}, {-5, -1}, {-2, 2}}, []int{3, -6, 0}, false},
		{sides{{1, 5}, {-5, -1}, {-2, 2}}, []int{3, 0, 0}, false},
		{sides{{1, 5}, {-5, -1}, {-2, 2}}, []int{3, -3, -3}, false},
		{sides{{1, 5}, {-5, -1}, {-2, 2}}, []int{3, -3, 3}, false},
		{sides{{1, 5}, {-5, -1}, {-2, 2}}, []int{0, 0, 3}, false},
		// A number that may not be is in no side, and is nothing wrong.
		{sides{{-most, most}}, []int{-most}, true},
		{sides{{-most, most}}, []int{most}, true},
		{sides{{-most, most}}, []int{-most - 1}, false},
		{sides{{-most, most}}, []int{most + 1}, false},
		{sides{{-most, most}}, []int{math.MinInt}, false},
		{sides{{-most, most}}, []int{math.MaxInt}, false},
		{sides{{-most, most}, {-most, most}}, []int{0, math.MaxInt}, false},
		{sides{{-most, most}, {-most, most}, {0, 0}}, []int{math.MinInt, 0, 0}, false},
		{sides{{-most, -most}, {most, most}}, []int{-most, most}, true},
	} {
		checkHas(t, c.b.box(), c.x, c.has, api.OK)
	}
}

// TestHasShape asks with more numbers than sides, fewer, and none, also where they would be in their sides.
func TestHasShape(t *testing.T) {
	long := []int{0, 5, 0, 0, 0}
	for _, g := range goodBoxes {
		for many := range len(long) + 1 {
			if many != len(g) {
				checkHas(t, g.box(), long[:many], false, api.ErrShape)
			}
		}
		checkHas(t, g.box(), nil, false, api.ErrShape)
		checkHas(t, g.box(), []int{}, false, api.ErrShape)
		checkHas(t, g.box(), make([]int, 1000), false, api.ErrShape)
		checkHas(t, g.box(), []int{math.MinInt, math.MaxInt, math.MinInt, math.MaxInt}, false, api.ErrShape)
	}
}

// TestHasWrong sees that what is wrong with the box is told, however many numbers there are.
func TestHasWrong(t *testing.T) {
	long := []int{0, 0, math.MaxInt, 0, math.MinInt}
	for _, w := range wrongBoxes {
		for many := range len(long) + 1 {
			checkHas(t, w.b.box(), long[:many], false, w.told)
		}
		checkHas(t, w.b.box(), nil, false, w.told)
		checkHas(t, w.b.box(), make([]int, len(w.b)), false, w.told)
	}
}

func TestHalve(t *testing.T) {
	for _, c := range []struct{ b, first, second sides }{
		// Of one side: above 0, below it, across it, and of an odd width.
		{sides{{1000, 3000}}, sides{{1000, 2000}}, sides{{2000, 3000}}},
		{sides{{-3000, -1000}}, sides{{-3000, -2000}}, sides{{-2000, -1000}}},
		{sides{{-1000, 2000}}, sides{{-1000, 500}}, sides{{500, 2000}}},
		{sides{{1, 4}}, sides{{1, 2}}, sides{{2, 4}}},
		{sides{{-4, -1}}, sides{{-4, -3}}, sides{{-3, -1}}},
		{sides{{-2, 1}}, sides{{-2, -1}}, sides{{-1, 1}}},
		{sides{{-1, 2}}, sides{{-1, 0}}, sides{{0, 2}}},
		{sides{{0, 1}}, sides{{0, 0}}, sides{{0, 1}}},
		{sides{{-1, 0}}, sides{{-1, -1}}, sides{{-1, 0}}},
		{sides{{-1, 1}}, sides{{-1, 0}}, sides{{0, 1}}},
		// The widest one first, and last.
		{sides{{-10, 10}, {0, 19}}, sides{{-10, 0}, {0, 19}}, sides{{0, 10}, {0, 19}}},
		{sides{{0, 19}, {-10, 10}}, sides{{0, 19}, {-10, 0}}, sides{{0, 19}, {0, 10}}},
		{sides{{5, 5}, {0, 1}}, sides{{5, 5}, {0, 0}}, sides{{5, 5}, {0, 1}}},
		{sides{{0, 1}, {5, 5}}, sides{{0, 0}, {5, 5}}, sides{{0, 1}, {5, 5}}},
		// First, in the middle, last; of the others either is the wider one.
		{sides{{-9, -2}, {0, 6}, {0, 5}}, sides{{-9, -6}, {0, 6}, {0, 5}}, sides{{-6, -2}, {0, 6}, {0, 5}}},
		{sides{{-9, -2}, {0, 5}, {0, 6}}, sides{{-9, -6}, {0, 5}, {0, 6}}, sides{{-6, -2}, {0, 5}, {0, 6}}},
		{sides{{0, 6}, {-9, -2}, {0, 5}}, sides{{0, 6}, {-9, -6}, {0, 5}}, sides{{0, 6}, {-6, -2}, {0, 5}}},
		{sides{{0, 5}, {-9, -2}, {0, 6}}, sides{{0, 5}, {-9, -6}, {0, 6}}, sides{{0, 5}, {-6, -2}, {0, 6}}},
		{sides{{0, 6}, {0, 5}, {-9, -2}}, sides{{0, 6}, {0, 5}, {-9, -6}}, sides{{0, 6}, {0, 5}, {-6, -2}}},
		{sides{{0, 5}, {0, 6}, {-9, -2}}, sides{{0, 5}, {0, 6}, {-9, -6}}, sides{{0, 5}, {0, 6}, {-6, -2}}},
		// The widest, not the one that goes furthest from 0.
		{sides{{-3, 3}, {100, 105}, {-205, -200}}, sides{{-3, 0}, {100, 105}, {-205, -200}}, sides{{0, 3}, {100, 105}, {-205, -200}}},
		{sides{{most - 1, most}, {-most, -most + 1}, {-1, 1}}, sides{{most - 1, most}, {-most, -most + 1}, {-1, 0}}, sides{{most - 1, most}, {-most, -most + 1}, {0, 1}}},
		// As far as may be.
		{sides{{-most, most}}, sides{{-most, 0}}, sides{{0, most}}},
		{sides{{-most, most - 1}}, sides{{-most, -1}}, sides{{-1, most - 1}}},
		{sides{{-most + 1, most}, {-most, most}}, sides{{-most + 1, most}, {-most, 0}}, sides{{-most + 1, most}, {0, most}}},
		{sides{{most - 1, most}}, sides{{most - 1, most - 1}}, sides{{most - 1, most}}},
		{sides{{-most, -most + 1}}, sides{{-most, -most}}, sides{{-most, -most + 1}}},
	} {
		checkHalve(t, c.b.box(), c.first.box(), c.second.box(), api.OK)
	}
}

// TestHalveAsWide asks where two sides, or all three, are as wide as each other: the first of them is parted.
func TestHalveAsWide(t *testing.T) {
	for _, c := range []struct{ b, first, second sides }{
		{sides{{0, 4}, {-4, 0}}, sides{{0, 2}, {-4, 0}}, sides{{2, 4}, {-4, 0}}},
		{sides{{-4, 0}, {0, 4}}, sides{{-4, -2}, {0, 4}}, sides{{-2, 0}, {0, 4}}},
		{sides{{0, 4}, {-2, 2}, {1, 2}}, sides{{0, 2}, {-2, 2}, {1, 2}}, sides{{2, 4}, {-2, 2}, {1, 2}}},
		{sides{{0, 4}, {1, 2}, {-2, 2}}, sides{{0, 2}, {1, 2}, {-2, 2}}, sides{{2, 4}, {1, 2}, {-2, 2}}},
		{sides{{1, 2}, {0, 4}, {-2, 2}}, sides{{1, 2}, {0, 2}, {-2, 2}}, sides{{1, 2}, {2, 4}, {-2, 2}}},
		// As wide as each other, and less wide than the third one.
		{sides{{0, 4}, {-2, 2}, {1, 9}}, sides{{0, 4}, {-2, 2}, {1, 5}}, sides{{0, 4}, {-2, 2}, {5, 9}}},
		{sides{{0, 4}, {1, 9}, {-2, 2}}, sides{{0, 4}, {1, 5}, {-2, 2}}, sides{{0, 4}, {5, 9}, {-2, 2}}},
		// All three.
		{sides{{0, 4}, {-2, 2}, {-9, -5}}, sides{{0, 2}, {-2, 2}, {-9, -5}}, sides{{2, 4}, {-2, 2}, {-9, -5}}},
		{sides{{-9, -6}, {0, 3}, {-2, 1}}, sides{{-9, -8}, {0, 3}, {-2, 1}}, sides{{-8, -6}, {0, 3}, {-2, 1}}},
		{sides{{-most, most}, {-most, most}, {-most, most}}, sides{{-most, 0}, {-most, most}, {-most, most}}, sides{{0, most}, {-most, most}, {-most, most}}},
		// Of one number each: both halves are the box.
		{sides{{7, 7}}, sides{{7, 7}}, sides{{7, 7}}},
		{sides{{-7, -7}, {0, 0}}, sides{{-7, -7}, {0, 0}}, sides{{-7, -7}, {0, 0}}},
		{sides{{-most, -most}, {3, 3}, {most, most}}, sides{{-most, -most}, {3, 3}, {most, most}}, sides{{-most, -most}, {3, 3}, {most, most}}},
	} {
		checkHalve(t, c.b.box(), c.first.box(), c.second.box(), api.OK)
	}
}

func TestHalveWrong(t *testing.T) {
	for _, w := range wrongBoxes {
		checkHalve(t, w.b.box(), nil, nil, w.told)
	}
}

// TestOneListTwice asks with one list as both boxes, and with two that lie over each other.
func TestOneListTwice(t *testing.T) {
	whole := sides{{-1000, 2000}, {-5, 5}, {0, 9}}.box()
	before := slices.Clone(whole)
	for name, call := range map[string]twoBoxes{"Hull": box.Hull, "Meet": box.Meet} {
		same, err := call(whole, whole)
		if !slices.Equal(same, before) || err != nil {
			t.Errorf("%s(%v, itself) = %v, %v", name, before, same, err)
		}
		spoil(same)
		shifted, _ := call(whole[:2], whole[1:])
		spoil(shifted)
		if !slices.Equal(whole, before) {
			t.Fatalf("%s changed what it was handed, or told what shares memory with it", name)
		}
	}
	if is, err := box.Within(whole, whole); !is || err != nil {
		t.Errorf("Within(%v, itself) = %v, %v", whole, is, err)
	}
	hull, err := box.Hull(whole[:2], whole[1:])
	if want := (sides{{-1000, 2000}, {-5, 9}}).box(); !slices.Equal(hull, want) || err != nil {
		t.Errorf("Hull(%v, %v) = %v, %v; want %v", whole[:2], whole[1:], hull, err, want)
	}
}

// TestFresh sees that what a call told before is not written over by a later one.
func TestFresh(t *testing.T) {
	a, b := sides{{-9, 9}, {0, 4}}.box(), sides{{-1, 12}, {2, 8}}.box()
	hull, _ := box.Hull(a, b)
	meet, _ := box.Meet(a, b)
	first, second, _ := box.Halve(a)
	told := [][]api.Span{hull, meet, first, second}
	var kept [][]api.Span
	for _, l := range told {
		kept = append(kept, slices.Clone(l))
	}
	for range 3 {
		hull, _ := box.Hull(b, b)
		meet, _ := box.Meet(b, b)
		first, second, _ := box.Halve(b)
		for _, l := range [][]api.Span{hull, meet, first, second} {
			spoil(l)
		}
	}
	for i := range told {
		if !slices.Equal(told[i], kept[i]) {
			t.Errorf("what was told as %v is now %v", kept[i], told[i])
		}
	}
}

// wrong is what the chapter says is wrong with a box.
func wrong(b []api.Span) api.Errno {
	switch len(b) {
	case 0:
		return api.ErrNone
	case 1, 2, 3:
	default:
		return api.ErrFull
	}
	for _, s := range b {
		if s.Lo < -most || s.Lo > most || s.Hi < -most || s.Hi > most {
			return api.ErrRange
		}
		if s.Hi < s.Lo {
			return api.ErrShape
		}
	}
	return api.OK
}

// wrongTwo is what it says is wrong with two.
func wrongTwo(a, b []api.Span) api.Errno {
	if told := wrong(a); told != api.OK {
		return told
	}
	if told := wrong(b); told != api.OK {
		return told
	}
	if len(a) != len(b) {
		return api.ErrShape
	}
	return api.OK
}

// meantWithin, meantHull and meantMeet are what it says of two boxes of which nothing is wrong.
func meantWithin(a, b []api.Span) bool {
	// A box is within another one where it adds nothing to it.
	return slices.Equal(meantHull(a, b), b)
}

func meantHull(a, b []api.Span) []api.Span {
	all := slices.Clone(a)
	for i, s := range b {
		if s.Lo < all[i].Lo {
			all[i].Lo = s.Lo
		}
		if s.Hi > all[i].Hi {
			all[i].Hi = s.Hi
		}
	}
	return all
}

func meantMeet(a, b []api.Span) ([]api.Span, api.Errno) {
	both := slices.Clone(a)
	for i, s := range b {
		if a[i].Hi < s.Lo || s.Hi < a[i].Lo {
			return nil, api.ErrNone
		}
		if s.Lo > both[i].Lo {
			both[i].Lo = s.Lo
		}
		if s.Hi < both[i].Hi {
			both[i].Hi = s.Hi
		}
	}
	return both, api.OK
}

// meantHalve parts the first side that no other one is wider than.
func meantHalve(b []api.Span) (first, second []api.Span) {
	first, second = slices.Clone(b), slices.Clone(b)
	width := func(s api.Span) int { return s.Hi - s.Lo }
	for i, s := range b {
		if slices.ContainsFunc(b, func(other api.Span) bool { return width(other) > width(s) }) {
			continue
		}
		// A shift rounds down on either side of 0.
		first[i].Hi, second[i].Lo = (s.Lo+s.Hi)>>1, (s.Lo+s.Hi)>>1
		break
	}
	return first, second
}

// checkMeantTwo holds each call of two boxes against what is meant.
func checkMeantTwo(t *testing.T, a, b []api.Span) {
	t.Helper()
	told := wrongTwo(a, b)
	if told != api.OK {
		checkWithin(t, a, b, false, told)
		checkTwo(t, "Hull", box.Hull, a, b, nil, told)
		checkTwo(t, "Meet", box.Meet, a, b, nil, told)
		return
	}
	checkWithin(t, a, b, meantWithin(a, b), api.OK)
	checkTwo(t, "Hull", box.Hull, a, b, meantHull(a, b), api.OK)
	both, none := meantMeet(a, b)
	checkTwo(t, "Meet", box.Meet, a, b, both, none)
}

// checkMeantOne holds each call of one box alone against what is meant.
func checkMeantOne(t *testing.T, b []api.Span) {
	t.Helper()
	told := wrong(b)
	checkCheck(t, b, told)
	if told != api.OK {
		checkHalve(t, b, nil, nil, told)
		return
	}
	first, second := meantHalve(b)
	checkHalve(t, b, first, second, api.OK)
}

// checkMeantHas holds Has against what is meant.
func checkMeantHas(t *testing.T, b []api.Span, x []int) {
	t.Helper()
	if told := wrong(b); told != api.OK {
		checkHas(t, b, x, false, told)
		return
	}
	if len(x) != len(b) {
		checkHas(t, b, x, false, api.ErrShape)
		return
	}
	in := true
	for i, n := range x {
		if n < b[i].Lo || n > b[i].Hi {
			in = false
		}
	}
	checkHas(t, b, x, in, api.OK)
}

// lists gives all lists of up to some things out of all.
func lists[T any](all []T, upTo int) [][]T {
	made, last := [][]T{nil}, [][]T{nil}
	for range upTo {
		var next [][]T
		for _, l := range last {
			for _, one := range all {
				next = append(next, append(slices.Clone(l), one))
			}
		}
		made, last = append(made, next...), next
	}
	return made
}

// spansBetween gives all spans, also those the wrong way round, between some numbers.
func spansBetween(numbers []int) []api.Span {
	var all []api.Span
	for _, lo := range numbers {
		for _, hi := range numbers {
			all = append(all, api.Span{Lo: lo, Hi: hi})
		}
	}
	return all
}

// far are the numbers at which what is told changes.
var far = []int{math.MinInt, -most - 1, -most, -most + 1, -1, 0, 1, most - 1, most, most + 1, math.MaxInt}

func TestAllOfEdges(t *testing.T) {
	edges := sides{{-most, most}, {0, 0}, {-3, -1}, {-1, 2}, {2, most}, {1, 0}, {0, most + 1}, {math.MaxInt, math.MinInt}}.box()
	boxes := lists(edges, api.MaxSides)
	boxes = append(boxes, sides{{0, 0}, {0, 0}, {0, 0}, {0, 0}}.box(), sides{{1, 0}, {0, 0}, {0, most + 1}, {0, 0}}.box())
	points := lists([]int{math.MinInt, -1, 0, most + 1}, api.MaxSides)
	for _, a := range boxes {
		checkMeantOne(t, a)
		for _, b := range boxes {
			checkMeantTwo(t, a, b)
		}
		for _, x := range points {
			checkMeantHas(t, a, x)
		}
	}
}

// TestAllOfFar asks of boxes of one side with each end at each edge, and of two with the widths as near to each other as they may be.
func TestAllOfFar(t *testing.T) {
	all := lists(spansBetween(far), 1)
	for _, a := range all {
		for _, b := range all {
			checkMeantTwo(t, a, b)
		}
		for _, n := range far {
			checkMeantHas(t, a, []int{n})
		}
	}
	for _, b := range lists(spansBetween(far), 2) {
		checkMeantOne(t, b)
	}
}

// rightSpans gives all spans between two numbers.
func rightSpans(from, to int) []api.Span {
	var all []api.Span
	for lo := from; lo <= to; lo++ {
		for hi := lo; hi <= to; hi++ {
			all = append(all, api.Span{Lo: lo, Hi: hi})
		}
	}
	return all
}

// has is Has of what must have nothing wrong.
func has(t *testing.T, b []api.Span, x []int) bool {
	t.Helper()
	is, err := box.Has(b, x)
	if err != nil {
		t.Fatalf("Has(%v, %v) = %v", b, x, err)
	}
	return is
}

// TestPointByPoint holds the calls against each other by what points they have: a point of either is in the Hull, just those of both are in the Meet, and within is what has no point outside.
func TestPointByPoint(t *testing.T) {
	boxes := lists(rightSpans(-2, 2), 2)
	points := lists([]int{-3, -2, -1, 0, 1, 2, 3}, 2)
	for _, a := range boxes[1:] {
		for _, b := range boxes[1:] {
			if len(a) == len(b) {
				pointByPoint(t, a, b, points)
			}
		}
	}
}

func pointByPoint(t *testing.T, a, b []api.Span, points [][]int) {
	t.Helper()
	within, _ := box.Within(a, b)
	hull, _ := box.Hull(a, b)
	meet, none := box.Meet(a, b)
	in, common := true, false
	for _, x := range points {
		if len(x) != len(a) {
			continue
		}
		ofA, ofB := has(t, a, x), has(t, b, x)
		in = in && (!ofA || ofB)
		common = common || ofA && ofB
		if (ofA || ofB) && !has(t, hull, x) {
			t.Errorf("Hull(%v, %v) = %v lost %v", a, b, hull, x)
		}
		if none == nil && has(t, meet, x) != (ofA && ofB) {
			t.Errorf("Meet(%v, %v) = %v is wrong of %v", a, b, meet, x)
		}
	}
	if within != in {
		t.Errorf("Within(%v, %v) = %v", a, b, within)
	}
	if common != (none == nil) {
		t.Errorf("Meet(%v, %v) told %v", a, b, none)
	}
}

// TestHalvesHaveAll sees that a point of a box is in one of its halves, that they have nothing else, and that neither is wider than the other by more than one.
func TestHalvesHaveAll(t *testing.T) {
	points := lists([]int{-3, -2, -1, 0, 1, 2, 3}, api.MaxSides)
	for _, b := range lists(rightSpans(-2, 2), api.MaxSides)[1:] {
		first, second, err := box.Halve(b)
		if err != nil {
			t.Fatalf("Halve(%v) = %v", b, err)
		}
		for _, x := range points {
			if len(x) == len(b) && has(t, b, x) != (has(t, first, x) || has(t, second, x)) {
				t.Errorf("Halve(%v) = %v, %v is wrong of %v", b, first, second, x)
			}
		}
		for i := range b {
			if more := second[i].Hi - second[i].Lo - (first[i].Hi - first[i].Lo); more < 0 || more > 1 {
				t.Errorf("Halve(%v) = %v, %v: the one is wider", b, first, second)
			}
		}
		if _, err := box.Meet(first, second); err != nil {
			t.Errorf("Halve(%v) = %v, %v have nothing in both", b, first, second)
		}
	}
}

// TestHalvedOn halves the widest box on and on, till each side of the first half is one number.
func TestHalvedOn(t *testing.T) {
	b := sides{{-most, most}, {-most, most}, {-most, most}}.box()
	for range 3 * 31 {
		first, _, err := box.Halve(b)
		if err != nil {
			t.Fatalf("Halve(%v) = %v", b, err)
		}
		b = first
	}
	if want := (sides{{-most, -most}, {-most, -most}, {-most, -most}}).box(); !slices.Equal(b, want) {
		t.Errorf("halved to %v; want %v", b, want)
	}
}

// FuzzTwo holds any two boxes, and any numbers, against what is meant.
func FuzzTwo(f *testing.F) {
	f.Add(uint8(1), uint8(1), uint8(1), -2, 45, 1, 23, 45, 0)
	f.Add(uint8(3), uint8(2), uint8(3), -most, most, 0, most+1, 7, -7)
	f.Add(uint8(4), uint8(0), uint8(2), math.MinInt, math.MaxInt, 1, 0, -1, 1)
	f.Fuzz(func(t *testing.T, sidesA, sidesB, many uint8, k, l, m, n, o, p int) {
		for _, bound := range []int{math.MaxInt, most + 2, 3000, 7} {
			// Most ints are none that may be, and most are far apart, so they are brought near as well.
			x := []int{k % bound, l % bound, m % bound, n % bound, o % bound, p % bound}
			a := spansOf(x, 0, int(sidesA)%(api.MaxSides+2))
			b := spansOf(x, 3, int(sidesB)%(api.MaxSides+2))
			checkAll(t, a, b, x[:int(many)%(api.MaxSides+2)])
			checkAll(t, righted(a), righted(b), x[:min(len(a), len(x))])
		}
	})
}

// spansOf takes ends out of x, round and round, from one on.
func spansOf(x []int, from, many int) []api.Span {
	b := make([]api.Span, many)
	for i := range b {
		b[i] = api.Span{Lo: x[(from+2*i)%len(x)], Hi: x[(from+3*i+1)%len(x)]}
	}
	return b
}

// righted gives a box with no side the wrong way round.
func righted(b []api.Span) []api.Span {
	right := make([]api.Span, len(b))
	for i, s := range b {
		right[i] = api.Span{Lo: min(s.Lo, s.Hi), Hi: max(s.Lo, s.Hi)}
	}
	return right
}

func checkAll(t *testing.T, a, b []api.Span, x []int) {
	t.Helper()
	checkMeantOne(t, a)
	checkMeantOne(t, b)
	checkMeantTwo(t, a, b)
	checkMeantHas(t, a, x)
	checkMeantHas(t, b, x)
}
