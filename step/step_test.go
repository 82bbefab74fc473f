package step_test

import (
	"math"
	"math/big"
	"slices"
	"testing"

	"spanmeadow/api"
	"spanmeadow/form"
	"spanmeadow/plain"
	"spanmeadow/step"
)

// most is the greatest number that may be.
const most = api.MaxNumber

// far is how far from 0 Point goes.
const far = 20 * api.One

// behind is what is laid behind a list's length, and over what a call told, to tell whether memory is shared.
const behind = 4711

// terms of a polynomial: by, and how often each unknown.
type terms [][4]int

// form of these terms; of none nil stays nil, so that it is asked too.
func (l terms) form() []api.Term {
	if l == nil {
		return nil
	}
	f := make([]api.Term, len(l))
	for i, t := range l {
		f[i] = api.Term{By: t[0], Times: [3]int(t[1:])}
	}
	return f
}

// sides of a box, or pushes, by their ends.
type sides [][2]int

// box of these sides, likewise.
func (l sides) box() []api.Span {
	if l == nil {
		return nil
	}
	b := make([]api.Span, len(l))
	for i, ends := range l {
		b[i] = api.Span{Lo: ends[0], Hi: ends[1]}
	}
	return b
}

// system of polynomials and pushes.
type system struct {
	next []terms
	push sides
}

func (s system) system() api.System {
	made := api.System{Push: s.push.box()}
	if s.next != nil {
		made.Next = make([][]api.Term, len(s.next))
	}
	for i, l := range s.next {
		made.Next[i] = l.form()
	}
	return made
}

// handed is a list for a call, with memory behind its length; unchanged tells whether all of it is as it was.
func handed[T comparable](l []T, after T) (list []T, unchanged func() bool) {
	if l == nil {
		return nil, func() bool { return true }
	}
	whole := append(slices.Clone(l), after, after)
	before := slices.Clone(whole)
	return whole[:len(l)], func() bool { return slices.Equal(whole, before) }
}

func handedBox(b []api.Span) ([]api.Span, func() bool) {
	return handed(b, api.Span{Lo: behind, Hi: -behind})
}

func handedForm(f []api.Term) ([]api.Term, func() bool) {
	return handed(f, api.Term{By: math.MinInt, Times: [3]int{behind, -behind, behind}})
}

// sameMemory tells whether two lists are one.
func sameMemory(a, b []api.Term) bool {
	return len(a) == len(b) && cap(a) == cap(b) && (cap(a) == 0 || &a[:1][0] == &b[:1][0])
}

// handedSystem is a system for a call, with memory behind each of its lists.
func handedSystem(s api.System) (api.System, func() bool) {
	push, pushSame := handedBox(s.Push)
	if s.Next == nil {
		return api.System{Push: push}, pushSame
	}
	asks := []func() bool{pushSame}
	var whole [][]api.Term
	for _, f := range s.Next {
		list, same := handedForm(f)
		whole, asks = append(whole, list), append(asks, same)
	}
	whole = append(whole, []api.Term{{By: behind}}, nil)
	before := slices.Clone(whole)
	return api.System{Next: whole[:len(s.Next)], Push: push}, func() bool {
		return slices.EqualFunc(whole, before, sameMemory) &&
			!slices.ContainsFunc(asks, func(same func() bool) bool { return !same() })
	}
}

// spoil writes over all of a list's memory; where that changes another list, the two share it.
func spoil[T any](l []T, by T) {
	all := l[:cap(l)]
	for i := range all {
		all[i] = by
	}
}

func spoilBox(b []api.Span) { spoil(b, api.Span{Lo: -behind, Hi: -behind}) }

func checkCheck(t *testing.T, s api.System, told api.Errno) {
	t.Helper()
	list, unchanged := handedSystem(s)
	if err := step.Check(list); plain.Told(err) != told {
		t.Errorf("Check(%v) = %v; want %v", s, err, told)
	}
	if !unchanged() {
		t.Errorf("Check(%v) changed what it was handed", s)
	}
}

func checkCheckOver(t *testing.T, s api.System, b []api.Span, told api.Errno) {
	t.Helper()
	list, listSame := handedSystem(s)
	over, overSame := handedBox(b)
	if err := step.CheckOver(list, over); plain.Told(err) != told {
		t.Errorf("CheckOver(%v, %v) = %v; want %v", s, b, err, told)
	}
	if !listSame() || !overSame() {
		t.Errorf("CheckOver(%v, %v) changed what it was handed", s, b)
	}
}

func checkOf(t *testing.T, s api.System, b, want []api.Span, told api.Errno) {
	t.Helper()
	list, listSame := handedSystem(s)
	over, overSame := handedBox(b)
	got, err := step.Of(list, over)
	if !slices.Equal(got, want) || plain.Told(err) != told {
		t.Errorf("Of(%v, %v) = %v, %v; want %v, %v", s, b, got, err, want, told)
	}
	if !listSame() || !overSame() {
		t.Errorf("Of(%v, %v) changed what it was handed", s, b)
	}
	spoilBox(got)
	if !listSame() || !overSame() {
		t.Errorf("Of(%v, %v) told what shares memory with what it was handed", s, b)
	}
}

func checkPoint(t *testing.T, s api.System, x, push, want []int, told api.Errno) {
	t.Helper()
	list, listSame := handedSystem(s)
	at, atSame := handed(x, math.MaxInt)
	by, bySame := handed(push, math.MinInt)
	got, err := step.Point(list, at, by)
	if !slices.Equal(got, want) || plain.Told(err) != told {
		t.Errorf("Point(%v, %v, %v) = %v, %v; want %v, %v", s, x, push, got, err, want, told)
	}
	if !listSame() || !atSame() || !bySame() {
		t.Errorf("Point(%v, %v, %v) changed what it was handed", s, x, push)
	}
	spoil(got, behind)
	if !listSame() || !atSame() || !bySame() {
		t.Errorf("Point(%v, %v, %v) told what shares memory with what it was handed", s, x, push)
	}
}

// The polynomials that several tests take: each unknown by itself, and all that is with it.
var (
	ofX = terms{{1000, 1, 0, 0}}
	ofY = terms{{1000, 0, 1, 0}}
	ofZ = terms{{1000, 0, 0, 1}}
	// full has one Term more than may be, and in each another fault.
	full = terms{{most + 1, 0, 0, 0}, {1, -1, 0, 0}, {1, 4, 0, 0}, {1, 2, 2, 0}, {1, 0, 1, 1}, {}, {}}
)

// goodSystems have nothing wrong with them.
var goodSystems = []system{
	// Of one unknown: with no Term, with one, with several, with as many as may be.
	{[]terms{nil}, sides{{0, 0}}},
	{[]terms{{}}, sides{{-3, 5}}},
	{[]terms{ofX}, sides{{-5, -3}}},
	{[]terms{{{500, 0, 0, 0}}}, sides{{3, 5}}},
	{[]terms{{{2000, 0, 0, 0}, {-3000, 1, 0, 0}, {1000, 2, 0, 0}, {1, 3, 0, 0}}}, sides{{-most, most}}},
	{[]terms{{{1, 3, 0, 0}, {2, 2, 0, 0}, {3, 1, 0, 0}, {4, 0, 0, 0}, {5, 1, 0, 0}, {6, 2, 0, 0}}}, sides{{7, 7}}},
	// Of two, with unknowns in polynomials other than their own.
	{[]terms{nil, nil}, sides{{0, 0}, {0, 0}}},
	{[]terms{ofX, ofY}, sides{{-1, 1}, {0, 9}}},
	{[]terms{ofY, ofX}, sides{{-1, 1}, {0, 9}}},
	{[]terms{nil, {{1, 1, 2, 0}, {-1, 2, 1, 0}, {3, 0, 3, 0}}}, sides{{-9, -8}, {8, 9}}},
	// Of three.
	{[]terms{nil, nil, nil}, sides{{0, 0}, {0, 0}, {0, 0}}},
	{[]terms{ofX, ofY, ofZ}, sides{{-1, 1}, {0, 9}, {-9, 0}}},
	{[]terms{ofZ, ofX, ofY}, sides{{-9, -3}, {2, 2}, {3, 9}}},
	{[]terms{{{1, 1, 1, 1}}, nil, {{1, 0, 1, 2}, {1, 2, 0, 1}, {7, 0, 0, 0}}}, sides{{most, most}, {-most, -most}, {-most, most}}},
	{[]terms{{{-most, 3, 0, 0}, {most, 0, 3, 0}}, {{most, 0, 0, 3}}, {{-most, 0, 0, 0}}}, sides{{-most, most}, {0, most}, {-most, 0}}},
}

// wrongSystems are systems with a fault, and which; where several are wrong with one, what is told first.
var wrongSystems = []struct {
	s    system
	told api.Errno
}{
	// No polynomial, whatever there is of pushes.
	{system{}, api.ErrNone},
	{system{[]terms{}, sides{}}, api.ErrNone},
	{system{[]terms{ofX, ofX, ofX}[:0], sides{{0, 1}}[:0]}, api.ErrNone},
	{system{nil, sides{{0, 1}}}, api.ErrNone},
	{system{nil, sides{{1, 0}, {0, most + 1}}}, api.ErrNone},
	{system{[]terms{}, make(sides, 4)}, api.ErrNone},
	// Too many, by one and by far, whatever there is of pushes, and whatever is wrong with them.
	{system{make([]terms, 4), make(sides, 4)}, api.ErrFull},
	{system{make([]terms, 1000), make(sides, 1000)}, api.ErrFull},
	{system{make([]terms, 4), make(sides, 3)}, api.ErrFull},
	{system{make([]terms, 4), nil}, api.ErrFull},
	{system{[]terms{{{most + 1, 0, 0, 0}}, nil, nil, ofY}, make(sides, 4)}, api.ErrFull},
	{system{[]terms{ofX, ofX, ofX, ofX}, sides{{1, 0}, {0, most + 1}, {0, 0}, {0, 0}}}, api.ErrFull},
	// Not as many pushes: none, one too few, one too many, and far too many; whatever else is wrong.
	{system{[]terms{ofX}, nil}, api.ErrShape},
	{system{[]terms{ofX}, sides{}}, api.ErrShape},
	{system{[]terms{ofX}, sides{{0, 0}, {0, 0}}}, api.ErrShape},
	{system{[]terms{ofX, ofY}, sides{{0, 0}}}, api.ErrShape},
	{system{[]terms{ofX, ofY}, sides{{0, 0}, {0, 0}, {0, 0}}}, api.ErrShape},
	{system{[]terms{ofX, ofY, ofZ}, sides{{0, 0}, {0, 0}}}, api.ErrShape},
	{system{[]terms{ofX, ofY, ofZ}, sides{{0, 0}, {0, 0}, {0, 0}, {0, 0}}}, api.ErrShape},
	{system{[]terms{ofX, ofY, ofZ}, nil}, api.ErrShape},
	{system{[]terms{ofX, ofY}, make(sides, 1000)}, api.ErrShape},
	{system{[]terms{full}, nil}, api.ErrShape},
	{system{[]terms{{{most + 1, 0, 0, 0}}}, sides{{0, 0}, {0, 0}}}, api.ErrShape},
	{system{[]terms{ofX, {{1, 4, 0, 0}}}, sides{{0, most + 1}}}, api.ErrShape},
	{system{[]terms{ofX}, sides{{0, most + 1}, {1, 0}}}, api.ErrShape},
	// One polynomial, by each of its faults, wherever it stands.
	{system{[]terms{full}, sides{{0, 0}}}, api.ErrFull},
	{system{[]terms{make(terms, 7), nil}, sides{{0, 0}, {0, 0}}}, api.ErrFull},
	{system{[]terms{nil, make(terms, 7)}, sides{{0, 0}, {0, 0}}}, api.ErrFull},
	{system{[]terms{nil, nil, make(terms, 1000)}, sides{{0, 0}, {0, 0}, {0, 0}}}, api.ErrFull},
	{system{[]terms{{{most + 1, 0, 0, 0}}}, sides{{0, 0}}}, api.ErrRange},
	{system{[]terms{{{-most - 1, 0, 0, 0}}, nil}, sides{{0, 0}, {0, 0}}}, api.ErrRange},
	{system{[]terms{nil, {{0, 0, 0, 0}, {math.MaxInt, 0, 0, 0}}}, sides{{0, 0}, {0, 0}}}, api.ErrRange},
	{system{[]terms{nil, nil, {{math.MinInt, 0, 0, 0}}}, sides{{0, 0}, {0, 0}, {0, 0}}}, api.ErrRange},
	{system{[]terms{{{1, -1, 0, 0}}}, sides{{0, 0}}}, api.ErrRange},
	{system{[]terms{{{1, 4, 0, 0}}}, sides{{0, 0}}}, api.ErrRange},
	{system{[]terms{nil, {{1, 2, 2, 0}}}, sides{{0, 0}, {0, 0}}}, api.ErrRange},
	{system{[]terms{nil, nil, {{1, math.MaxInt, math.MaxInt, 2}}}, sides{{0, 0}, {0, 0}, {0, 0}}}, api.ErrRange},
	{system{[]terms{{{1, 0, math.MinInt, 0}}, nil, nil}, sides{{0, 0}, {0, 0}, {0, 0}}}, api.ErrRange},
	// An unknown that is not there: as many are as there are polynomials.
	{system{[]terms{ofY}, sides{{0, 0}}}, api.ErrShape},
	{system{[]terms{ofZ}, sides{{0, 0}}}, api.ErrShape},
	{system{[]terms{ofX, ofZ}, sides{{0, 0}, {0, 0}}}, api.ErrShape},
	{system{[]terms{{{0, 1, 1, 1}}, ofX}, sides{{0, 0}, {0, 0}}}, api.ErrShape},
	// Several polynomials: the first one's is told, whichever it is.
	{system{[]terms{full, ofZ}, sides{{0, 0}, {0, 0}}}, api.ErrFull},
	{system{[]terms{ofZ, full}, sides{{0, 0}, {0, 0}}}, api.ErrShape},
	{system{[]terms{ofZ, {{most + 1, 0, 0, 0}}}, sides{{0, 0}, {0, 0}}}, api.ErrShape},
	{system{[]terms{{{most + 1, 0, 0, 0}}, ofZ}, sides{{0, 0}, {0, 0}}}, api.ErrRange},
	{system{[]terms{{{1, 4, 0, 0}}, full}, sides{{0, 0}, {0, 0}}}, api.ErrRange},
	{system{[]terms{ofX, make(terms, 7), {{1, 4, 0, 0}}}, sides{{0, 0}, {0, 0}, {0, 0}}}, api.ErrFull},
	{system{[]terms{ofX, {{1, 4, 0, 0}}, make(terms, 7)}, sides{{0, 0}, {0, 0}, {0, 0}}}, api.ErrRange},
	// One Push, by each of its faults, wherever it stands.
	{system{[]terms{ofX}, sides{{1, 0}}}, api.ErrShape},
	{system{[]terms{ofX}, sides{{most, -most}}}, api.ErrShape},
	{system{[]terms{ofX}, sides{{0, most + 1}}}, api.ErrRange},
	{system{[]terms{ofX}, sides{{-most - 1, 0}}}, api.ErrRange},
	{system{[]terms{ofX}, sides{{math.MinInt, math.MaxInt}}}, api.ErrRange},
	{system{[]terms{ofX}, sides{{math.MaxInt, math.MinInt}}}, api.ErrRange},
	{system{[]terms{ofX, ofY}, sides{{0, -1}, {0, 0}}}, api.ErrShape},
	{system{[]terms{ofX, ofY}, sides{{0, 0}, {0, -1}}}, api.ErrShape},
	{system{[]terms{ofX, ofY}, sides{{0, 0}, {math.MinInt, 0}}}, api.ErrRange},
	{system{[]terms{ofX, ofY, ofZ}, sides{{0, 0}, {0, 0}, {0, most + 1}}}, api.ErrRange},
	{system{[]terms{ofX, ofY, ofZ}, sides{{0, 0}, {0, 0}, {-1, -2}}}, api.ErrShape},
	// Several pushes: the first one's is told.
	{system{[]terms{ofX, ofY}, sides{{1, 0}, {0, most + 1}}}, api.ErrShape},
	{system{[]terms{ofX, ofY}, sides{{0, most + 1}, {1, 0}}}, api.ErrRange},
	{system{[]terms{ofX, ofY, ofZ}, sides{{0, 0}, {1, 0}, {math.MinInt, 0}}}, api.ErrShape},
	{system{[]terms{ofX, ofY, ofZ}, sides{{0, 0}, {math.MinInt, 0}, {1, 0}}}, api.ErrRange},
	// A polynomial and a Push: the polynomial's is told, also where it stands behind.
	{system{[]terms{ofY}, sides{{0, most + 1}}}, api.ErrShape},
	{system{[]terms{full}, sides{{1, 0}}}, api.ErrFull},
	{system{[]terms{{{1, 4, 0, 0}}}, sides{{1, 0}}}, api.ErrRange},
	{system{[]terms{ofX, full}, sides{{1, 0}, {0, 0}}}, api.ErrFull},
	{system{[]terms{ofX, ofZ}, sides{{0, most + 1}, {0, 0}}}, api.ErrShape},
	{system{[]terms{ofX, ofX, {{most + 1, 0, 0, 0}}}, sides{{1, 0}, {1, 0}, {1, 0}}}, api.ErrRange},
	{system{[]terms{ofX, {{1, 2, 2, 0}}, ofX}, sides{{0, 0}, {1, 0}, {0, 0}}}, api.ErrRange},
}

// wrongBoxes are boxes with a fault, and which.
var wrongBoxes = []struct {
	b    sides
	told api.Errno
}{
	{nil, api.ErrNone},
	{sides{}, api.ErrNone},
	{sides{{0, 1}, {0, 1}}[:0], api.ErrNone},
	{sides{{0, 1}, {0, 1}, {0, 1}, {0, 1}}, api.ErrFull},
	{sides{{1, 0}, {0, most + 1}, {0, 1}, {0, 1}}, api.ErrFull},
	{make(sides, 1000), api.ErrFull},
	{sides{{1, 0}}, api.ErrShape},
	{sides{{0, most + 1}}, api.ErrRange},
	{sides{{-most - 1, 0}}, api.ErrRange},
	{sides{{math.MinInt, math.MaxInt}}, api.ErrRange},
	{sides{{math.MaxInt, math.MinInt}}, api.ErrRange},
	{sides{{0, 1}, {1, 0}}, api.ErrShape},
	{sides{{0, 1}, {0, math.MaxInt}}, api.ErrRange},
	{sides{{0, 1}, {1, 0}, {0, most + 1}}, api.ErrShape},
	{sides{{0, 1}, {math.MinInt, 0}, {1, 0}}, api.ErrRange},
	{sides{{0, 1}, {0, 1}, {1, 0}}, api.ErrShape},
	{sides{{0, 1}, {0, 1}, {-most - 1, 0}}, api.ErrRange},
}

// goodBoxes have nothing wrong with them, and each another number of sides.
var goodBoxes = []sides{
	{{-1000, 2000}},
	{{-1000, 2000}, {5, 5}},
	{{-1000, 2000}, {5, 5}, {-most, most}},
}

func TestCheck(t *testing.T) {
	for _, g := range goodSystems {
		checkCheck(t, g.system(), api.OK)
	}
}

func TestCheckWrong(t *testing.T) {
	for _, w := range wrongSystems {
		checkCheck(t, w.s.system(), w.told)
	}
}

// boxed is a system, a box, and the box that may be next, or what is told.
type boxed struct {
	s    system
	b    sides
	want sides
	told api.Errno
}

func checkBoxes(t *testing.T, list []boxed) {
	t.Helper()
	for _, c := range list {
		// All that these tables tell is told of Of itself, so system and box go together.
		checkCheckOver(t, c.s.system(), c.b.box(), api.OK)
		checkOf(t, c.s.system(), c.b.box(), c.want.box(), c.told)
	}
}

// turn is a system of two unknowns that go round; cycle one of three, of which the last has all of them.
var (
	turn  = system{[]terms{{{900, 1, 0, 0}, {200, 0, 1, 0}}, {{-200, 1, 0, 0}, {900, 0, 1, 0}}}, sides{{-5, 5}, {10, 10}}}
	cycle = system{[]terms{ofY, ofZ, {{1000, 1, 1, 1}}}, sides{{-1, 1}, {0, 0}, {2, 3}}}
)

func TestOf(t *testing.T) {
	checkBoxes(t, []boxed{
		// Of no Term it is the Push: of one number, of several, below 0, above it, across it.
		{system{[]terms{nil}, sides{{0, 0}}}, sides{{-1000, 2447}}, sides{{0, 0}}, api.OK},
		{system{[]terms{{}}, sides{{7, 7}}}, sides{{-1000, 2447}}, sides{{7, 7}}, api.OK},
		{system{[]terms{nil}, sides{{-30, -10}}}, sides{{5, 5}}, sides{{-30, -10}}, api.OK},
		{system{[]terms{nil}, sides{{10, 30}}}, sides{{-most, most}}, sides{{10, 30}}, api.OK},
		{system{[]terms{nil, {}}, sides{{-10, 30}, {1, 2}}}, sides{{4, 5}, {-5, -4}}, sides{{-10, 30}, {1, 2}}, api.OK},
		{system{[]terms{nil, nil, nil}, sides{{1, 2}, {-2, -1}, {-3, 3}}}, sides{{4, 5}, {4, 5}, {4, 5}}, sides{{1, 2}, {-2, -1}, {-3, 3}}, api.OK},
		// Of one Term, over boxes below 0, above it, across it, and of one number.
		{system{[]terms{{{500, 0, 0, 0}}}, sides{{-1, 2}}}, sides{{-9, 9}}, sides{{499, 502}}, api.OK},
		{system{[]terms{{{500, 1, 0, 0}}}, sides{{0, 0}}}, sides{{-3000, -1000}}, sides{{-1500, -500}}, api.OK},
		{system{[]terms{{{500, 1, 0, 0}}}, sides{{10, 20}}}, sides{{1000, 3000}}, sides{{510, 1520}}, api.OK},
		{system{[]terms{{{500, 1, 0, 0}}}, sides{{-10, 20}}}, sides{{-1000, 2000}}, sides{{-510, 1020}}, api.OK},
		{system{[]terms{{{-500, 1, 0, 0}}}, sides{{-20, -10}}}, sides{{-1000, 2000}}, sides{{-1020, 490}}, api.OK},
		{system{[]terms{{{1000, 2, 0, 0}}}, sides{{-3, 1}}}, sides{{-1000, 2000}}, sides{{-3, 4001}}, api.OK},
		{system{[]terms{{{1000, 3, 0, 0}}}, sides{{-3, 1}}}, sides{{-2000, -1000}}, sides{{-8003, -999}}, api.OK},
		{system{[]terms{{{500, 1, 0, 0}}}, sides{{4, 4}}}, sides{{1000, 1000}}, sides{{504, 504}}, api.OK},
		// Of several.
		{system{[]terms{{{2000, 0, 0, 0}, {-3000, 1, 0, 0}, {1000, 2, 0, 0}}}, sides{{-1, 9}}}, sides{{-1000, 2000}}, sides{{-4001, 9009}}, api.OK},
		// Unknowns that go into others: all of them are those of the box, none is one that is next already.
		{system{[]terms{ofY, ofX}, sides{{0, 0}, {0, 0}}}, sides{{1, 2}, {-40, -30}}, sides{{-40, -30}, {1, 2}}, api.OK},
		{system{[]terms{ofZ, ofX, ofY}, sides{{1, 1}, {20, 20}, {300, 300}}}, sides{{1, 2}, {-40, -30}, {-500, 600}}, sides{{-499, 601}, {21, 22}, {260, 270}}, api.OK},
		{turn, sides{{1000, 2000}, {-1000, 1000}}, sides{{695, 2005}, {-1290, 710}}, api.OK},
		{turn, sides{{1000, 1000}, {-1000, 1000}}, sides{{695, 1105}, {-1090, 710}}, api.OK},
		{cycle, sides{{1000, 2000}, {-3000, -1000}, {0, 500}}, sides{{-3001, -999}, {0, 500}, {-2998, 3}}, api.OK},
		{cycle, sides{{2000, 2000}, {-3000, -3000}, {500, 500}}, sides{{-3001, -2999}, {500, 500}, {-2998, -2997}}, api.OK},
		{system{[]terms{nil, {{1000, 1, 0, 1}}, {{7, 0, 0, 0}}}, sides{{5, 6}, {-1, 0}, {0, 1}}}, sides{{-1000, 2000}, {9, 9}, {3000, 4000}}, sides{{5, 6}, {-4001, 8000}, {7, 8}}, api.OK},
	})
}

// TestOfRounded asks where rounding is seen: outward in the Range, and not at all by the Push.
func TestOfRounded(t *testing.T) {
	checkBoxes(t, []boxed{
		{system{[]terms{{{1, 1, 0, 0}}}, sides{{0, 0}}}, sides{{1, 1}}, sides{{0, 1}}, api.OK},
		{system{[]terms{{{1, 1, 0, 0}}}, sides{{-7, 7}}}, sides{{1, 1}}, sides{{-7, 8}}, api.OK},
		{system{[]terms{{{-1, 1, 0, 0}}}, sides{{-7, 7}}}, sides{{1, 1}}, sides{{-8, 7}}, api.OK},
		{system{[]terms{{{80, 1, 0, 0}}}, sides{{0, 0}}}, sides{{2000, 2006}}, sides{{160, 161}}, api.OK},
		// Each Term by itself, as a Range has it.
		{system{[]terms{{{1, 1, 0, 0}, {1, 0, 1, 0}}, {{1, 1, 1, 0}}}, sides{{1, 1}, {1, 1}}}, sides{{500, 500}, {500, 500}}, sides{{1, 3}, {1, 2}}, api.OK},
	})
}

// TestOfFull asks on either side of where it is beyond what may be.
func TestOfFull(t *testing.T) {
	high, low := terms{{most, 0, 0, 0}}, terms{{-most, 0, 0, 0}}
	checkBoxes(t, []boxed{
		// By the Push, at either end.
		{system{[]terms{high}, sides{{-1, 0}}}, sides{{0, 0}}, sides{{most - 1, most}}, api.OK},
		{system{[]terms{high}, sides{{-1, 1}}}, sides{{0, 0}}, nil, api.ErrFull},
		{system{[]terms{high}, sides{{1, 1}}}, sides{{0, 0}}, nil, api.ErrFull},
		{system{[]terms{high}, sides{{most, most}}}, sides{{0, 0}}, nil, api.ErrFull},
		{system{[]terms{high}, sides{{-most, 0}}}, sides{{0, 0}}, sides{{0, most}}, api.OK},
		{system{[]terms{low}, sides{{0, 1}}}, sides{{0, 0}}, sides{{-most, -most + 1}}, api.OK},
		{system{[]terms{low}, sides{{-1, 1}}}, sides{{0, 0}}, nil, api.ErrFull},
		{system{[]terms{low}, sides{{-1, -1}}}, sides{{0, 0}}, nil, api.ErrFull},
		{system{[]terms{low}, sides{{-most, -most}}}, sides{{0, 0}}, nil, api.ErrFull},
		{system{[]terms{low}, sides{{0, most}}}, sides{{0, 0}}, sides{{-most, 0}}, api.OK},
		{system{[]terms{ofX}, sides{{-5, 5}}}, sides{{-most + 5, most - 5}}, sides{{-most, most}}, api.OK},
		{system{[]terms{ofX}, sides{{-5, 5}}}, sides{{-most + 4, most - 5}}, nil, api.ErrFull},
		{system{[]terms{ofX}, sides{{-5, 5}}}, sides{{-most + 5, most - 4}}, nil, api.ErrFull},
		{system{[]terms{nil}, sides{{-most, most}}}, sides{{0, 0}}, sides{{-most, most}}, api.OK},
		// By the Range, even where the Push would bring it back.
		{system{[]terms{{{most, 0, 0, 0}, {1, 0, 0, 0}}}, sides{{-9, -9}}}, sides{{0, 0}}, nil, api.ErrFull},
		{system{[]terms{{{-most, 0, 0, 0}, {-1, 0, 0, 0}}}, sides{{9, 9}}}, sides{{0, 0}}, nil, api.ErrFull},
		{system{[]terms{{{most, 1, 0, 0}}}, sides{{0, 0}}}, sides{{-1000, 1000}}, sides{{-most, most}}, api.OK},
		{system{[]terms{{{most, 1, 0, 0}}}, sides{{0, 0}}}, sides{{-1000, 1001}}, nil, api.ErrFull},
		{system{[]terms{{{most, 1, 0, 0}}}, sides{{0, 0}}}, sides{{-1001, 1000}}, nil, api.ErrFull},
		{system{[]terms{{{0, 2, 0, 0}}}, sides{{0, 0}}}, sides{{0, 1000000}}, sides{{0, 0}}, api.OK},
		{system{[]terms{{{0, 2, 0, 0}}}, sides{{0, 0}}}, sides{{0, 1000001}}, nil, api.ErrFull},
		// Of one unknown alone, wherever it stands: then nothing is told of the others.
		{system{[]terms{high, nil}, sides{{0, 1}, {0, 0}}}, sides{{0, 0}, {0, 0}}, nil, api.ErrFull},
		{system{[]terms{nil, high}, sides{{0, 0}, {0, 1}}}, sides{{0, 0}, {0, 0}}, nil, api.ErrFull},
		{system{[]terms{nil, nil, low}, sides{{0, 0}, {0, 0}, {-1, 0}}}, sides{{0, 0}, {0, 0}, {0, 0}}, nil, api.ErrFull},
		{system{[]terms{nil, {{1, 3, 0, 0}}, nil}, sides{{0, 0}, {0, 0}, {0, 0}}}, sides{{-100001, 0}, {0, 0}, {0, 0}}, nil, api.ErrFull},
		// Each Push is its own unknown's alone.
		{system{[]terms{high, low, nil}, sides{{-1, 0}, {0, 1}, {-most, most}}}, sides{{0, 0}, {0, 0}, {0, 0}}, sides{{most - 1, most}, {-most, -most + 1}, {-most, most}}, api.OK},
	})
}

// TestOfWrong sees that what is wrong with the system is told, whatever the box, then what is wrong with the box, whatever its sides.
func TestOfWrong(t *testing.T) {
	for _, w := range wrongSystems {
		for _, g := range goodBoxes {
			checkOf(t, w.s.system(), g.box(), nil, w.told)
			checkCheckOver(t, w.s.system(), g.box(), w.told)
		}
		for _, v := range wrongBoxes {
			checkOf(t, w.s.system(), v.b.box(), nil, w.told)
			checkCheckOver(t, w.s.system(), v.b.box(), w.told)
		}
	}
	for _, g := range goodSystems {
		for _, w := range wrongBoxes {
			checkOf(t, g.system(), w.b.box(), nil, w.told)
			checkCheckOver(t, g.system(), w.b.box(), w.told)
		}
	}
}

// TestOfShape asks with one side too few, and one too many, or two: also where it would be beyond what may be.
func TestOfShape(t *testing.T) {
	for _, g := range goodSystems {
		for _, b := range append(goodBoxes, sides{{most, most}}, sides{{most, most}, {most, most}}, sides{{most, most}, {most, most}, {most, most}}) {
			if len(b) != len(g.next) {
				checkOf(t, g.system(), b.box(), nil, api.ErrShape)
				checkCheckOver(t, g.system(), b.box(), api.ErrShape)
			}
		}
	}
}

// pointed is a system, numbers, pushes, and what is next, or what is told.
type pointed struct {
	s       system
	x, push []int
	want    []int
	told    api.Errno
}

func checkPoints(t *testing.T, list []pointed) {
	t.Helper()
	for _, c := range list {
		checkPoint(t, c.s.system(), c.x, c.push, c.want, c.told)
	}
}

func TestPoint(t *testing.T) {
	checkPoints(t, []pointed{
		// Of no Term it is the push: at the ends of its span, and inside.
		{system{[]terms{nil}, sides{{0, 0}}}, []int{-1000}, []int{0}, []int{0}, api.OK},
		{system{[]terms{{}}, sides{{-30, -10}}}, []int{5}, []int{-30}, []int{-30}, api.OK},
		{system{[]terms{nil}, sides{{-30, -10}}}, []int{5}, []int{-10}, []int{-10}, api.OK},
		{system{[]terms{nil}, sides{{10, 30}}}, []int{5}, []int{20}, []int{20}, api.OK},
		{system{[]terms{nil, nil}, sides{{-10, 30}, {7, 7}}}, []int{5, 5}, []int{0, 7}, []int{0, 7}, api.OK},
		{system{[]terms{nil, nil, nil}, sides{{-most, most}, {-most, most}, {-most, most}}}, []int{far, -far, 0}, []int{most, -most, 1}, []int{most, -most, 1}, api.OK},
		// Of one Term.
		{system{[]terms{{{500, 0, 0, 0}}}, sides{{-1, 2}}}, []int{9}, []int{-1}, []int{499}, api.OK},
		{system{[]terms{{{500, 1, 0, 0}}}, sides{{-10, 20}}}, []int{-1000}, []int{-10}, []int{-510}, api.OK},
		{system{[]terms{{{500, 1, 0, 0}}}, sides{{-10, 20}}}, []int{2000}, []int{20}, []int{1020}, api.OK},
		{system{[]terms{{{-500, 1, 0, 0}}}, sides{{-10, 20}}}, []int{0}, []int{5}, []int{5}, api.OK},
		{system{[]terms{{{1000, 2, 0, 0}}}, sides{{-3, 1}}}, []int{-2000}, []int{-3}, []int{3997}, api.OK},
		{system{[]terms{{{1000, 3, 0, 0}}}, sides{{-3, 1}}}, []int{-2000}, []int{1}, []int{-7999}, api.OK},
		// Of several.
		{system{[]terms{{{2000, 0, 0, 0}, {-3000, 1, 0, 0}, {1000, 2, 0, 0}}}, sides{{-1, 9}}}, []int{-1000}, []int{9}, []int{6009}, api.OK},
		// Unknowns that go into others: all of them are those of x, none is one that is next already.
		{system{[]terms{ofY, ofX}, sides{{0, 0}, {0, 0}}}, []int{1, -40}, []int{0, 0}, []int{-40, 1}, api.OK},
		{system{[]terms{ofZ, ofX, ofY}, sides{{1, 1}, {20, 20}, {300, 300}}}, []int{2, -30, 500}, []int{1, 20, 300}, []int{501, 22, 270}, api.OK},
		{turn, []int{1500, -500}, []int{0, 10}, []int{1250, -740}, api.OK},
		{turn, []int{2000, 1000}, []int{5, 10}, []int{2005, 510}, api.OK},
		{turn, []int{-2000, 1000}, []int{-5, 10}, []int{-1605, 1310}, api.OK},
		{cycle, []int{1500, -2000, 250}, []int{1, 0, 2}, []int{-1999, 250, -748}, api.OK},
		{cycle, []int{2000, -3000, 500}, []int{-1, 0, 3}, []int{-3001, 500, -2997}, api.OK},
		{system{[]terms{nil, {{1000, 1, 0, 1}}, {{7, 0, 0, 0}}}, sides{{5, 6}, {-1, 0}, {0, 1}}}, []int{-1000, 9, 3000}, []int{6, -1, 1}, []int{6, -3001, 8}, api.OK},
	})
}

// TestPointRounded asks where rounding is seen: down, on either side of 0, and just once.
func TestPointRounded(t *testing.T) {
	checkPoints(t, []pointed{
		{system{[]terms{{{1, 1, 0, 0}}}, sides{{-7, 7}}}, []int{999}, []int{0}, []int{0}, api.OK},
		{system{[]terms{{{1, 1, 0, 0}}}, sides{{-7, 7}}}, []int{999}, []int{-7}, []int{-7}, api.OK},
		{system{[]terms{{{-1, 1, 0, 0}}}, sides{{-7, 7}}}, []int{1}, []int{0}, []int{-1}, api.OK},
		{system{[]terms{{{-1, 1, 0, 0}}}, sides{{-7, 7}}}, []int{1}, []int{7}, []int{6}, api.OK},
		{system{[]terms{{{1, 1, 0, 0}, {1, 0, 1, 0}}, {{-1, 1, 1, 0}, {1, 3, 0, 0}}}, sides{{0, 1}, {0, 1}}}, []int{500, 500}, []int{1, 1}, []int{2, 0}, api.OK},
		{system{[]terms{{{7, 1, 1, 1}}, {{-7, 1, 1, 1}}, nil}, sides{{0, 0}, {0, 0}, {0, 0}}}, []int{1, far, far}, []int{0, 0, 0}, []int{2, -3, 0}, api.OK},
	})
}

// greatest is the polynomial of which At tells the most that it can, and least the other way.
var (
	greatest = terms{{far, 3, 0, 0}, {far, 3, 0, 0}, {far, 3, 0, 0}, {far, 3, 0, 0}, {far, 3, 0, 0}, {far, 3, 0, 0}}
	least    = terms{{-far, 3, 0, 0}, {-far, 3, 0, 0}, {-far, 3, 0, 0}, {-far, 3, 0, 0}, {-far, 3, 0, 0}, {-far, 3, 0, 0}}
)

// TestPointFull asks on either side of where it is beyond what may be: by the push, and by a By.
func TestPointFull(t *testing.T) {
	any1, any2, any3 := sides{{-most, most}}, sides{{-most, most}, {-most, most}}, sides{{-most, most}, {-most, most}, {-most, most}}
	checkPoints(t, []pointed{
		{system{[]terms{{{far, 3, 0, 0}}}, any1}, []int{far}, []int{840000000}, []int{most}, api.OK},
		{system{[]terms{{{far, 3, 0, 0}}}, any1}, []int{far}, []int{840000001}, nil, api.ErrFull},
		{system{[]terms{{{far, 3, 0, 0}}}, any1}, []int{-far}, []int{-840000000}, []int{-most}, api.OK},
		{system{[]terms{{{far, 3, 0, 0}}}, any1}, []int{-far}, []int{-840000001}, nil, api.ErrFull},
		{system{[]terms{greatest}, any1}, []int{far}, []int{40000000}, []int{most}, api.OK},
		{system{[]terms{greatest}, any1}, []int{far}, []int{40000001}, nil, api.ErrFull},
		{system{[]terms{greatest}, any1}, []int{far}, []int{most}, nil, api.ErrFull},
		{system{[]terms{greatest}, any1}, []int{far}, []int{-most}, []int{-40000000}, api.OK},
		{system{[]terms{least}, any1}, []int{far}, []int{-40000000}, []int{-most}, api.OK},
		{system{[]terms{least}, any1}, []int{far}, []int{-40000001}, nil, api.ErrFull},
		{system{[]terms{least}, any1}, []int{far}, []int{most}, []int{40000000}, api.OK},
		{system{[]terms{ofX}, any1}, []int{1}, []int{most - 1}, []int{most}, api.OK},
		{system{[]terms{ofX}, any1}, []int{1}, []int{most}, nil, api.ErrFull},
		{system{[]terms{ofX}, any1}, []int{-1}, []int{-most}, nil, api.ErrFull},
		// What is rounded down is held, and no other.
		{system{[]terms{{{1, 1, 0, 0}}}, any1}, []int{999}, []int{most}, []int{most}, api.OK},
		{system{[]terms{{{1, 1, 0, 0}}}, any1}, []int{1000}, []int{most}, nil, api.ErrFull},
		{system{[]terms{{{1, 1, 0, 0}}}, any1}, []int{-1}, []int{-most}, nil, api.ErrFull},
		// Of one unknown alone, wherever it stands: then nothing is told of the others.
		{system{[]terms{ofX, nil}, any2}, []int{1, 0}, []int{most, 0}, nil, api.ErrFull},
		{system{[]terms{nil, ofX}, any2}, []int{1, 0}, []int{most, 0}, []int{most, 1}, api.OK},
		{system{[]terms{nil, ofX}, any2}, []int{1, 0}, []int{0, most}, nil, api.ErrFull},
		{system{[]terms{nil, nil, ofY}, any3}, []int{0, -1, 0}, []int{0, 0, -most}, nil, api.ErrFull},
		{system{[]terms{nil, nil, ofY}, any3}, []int{0, -1, 0}, []int{-most, most, 1 - most}, []int{-most, most, -most}, api.OK},
		// A By that is too far, wherever it stands, also where it adds nothing.
		{system{[]terms{{{far, 0, 0, 0}}}, any1}, []int{0}, []int{0}, []int{far}, api.OK},
		{system{[]terms{{{-far, 0, 0, 0}}}, any1}, []int{0}, []int{0}, []int{-far}, api.OK},
		{system{[]terms{{{far + 1, 0, 0, 0}}}, any1}, []int{0}, []int{0}, nil, api.ErrFull},
		{system{[]terms{{{-far - 1, 1, 0, 0}}}, any1}, []int{0}, []int{0}, nil, api.ErrFull},
		{system{[]terms{nil, {{1, 0, 0, 0}, {most, 0, 1, 0}}}, any2}, []int{0, 0}, []int{0, 0}, nil, api.ErrFull},
		{system{[]terms{nil, nil, {{-most, 0, 0, 3}}}, any3}, []int{0, 0, 0}, []int{0, 0, 0}, nil, api.ErrFull},
	})
}

// TestPointReach asks with each number at the ends of how far it goes, and one beyond, also where no Term has it.
func TestPointReach(t *testing.T) {
	for _, s := range []system{
		{[]terms{ofX, ofY, ofZ}, sides{{0, 0}, {0, 0}, {0, 0}}},
		{[]terms{nil, nil, nil}, sides{{0, 0}, {0, 0}, {0, 0}}},
	} {
		for at := range 3 {
			for _, n := range []int{-far, far} {
				x := []int{1, 2, 3}
				x[at] = n
				want := []int{0, 0, 0}
				if s.next[0] != nil {
					want = x
				}
				checkPoint(t, s.system(), x, []int{0, 0, 0}, want, api.OK)
			}
			for _, n := range []int{-far - 1, far + 1, -most, most, math.MinInt, math.MaxInt} {
				x := []int{1, 2, 3}
				x[at] = n
				checkPoint(t, s.system(), x, []int{0, 0, 0}, nil, api.ErrRange)
			}
		}
	}
}

// TestPointPush asks with each push at the ends of its span, and one beyond.
func TestPointPush(t *testing.T) {
	s := system{[]terms{nil, nil, nil}, sides{{-30, -10}, {7, 7}, {-5, 40}}}
	for at, ends := range s.push {
		for _, n := range []int{ends[0], (ends[0] + ends[1]) / 2, ends[1]} {
			push := []int{-20, 7, 0}
			push[at] = n
			checkPoint(t, s.system(), []int{1, 2, 3}, push, push, api.OK)
		}
		for _, n := range []int{ends[0] - 1, ends[1] + 1, -most, most, math.MinInt, math.MaxInt} {
			push := []int{-20, 7, 0}
			push[at] = n
			checkPoint(t, s.system(), []int{1, 2, 3}, push, nil, api.ErrRange)
		}
	}
	// Each has its own span: another one's does not do.
	checkPoint(t, s.system(), []int{1, 2, 3}, []int{7, -20, 0}, nil, api.ErrRange)
	checkPoint(t, s.system(), []int{1, 2, 3}, []int{-20, 7, -20}, nil, api.ErrRange)
}

// numbersOf are lists of each length, with nothing wrong and with all wrong.
var numbersOf = [][]int{
	nil, {}, {0}, {0, 0}, {0, 0, 0}, {0, 0, 0, 0}, make([]int, 1000),
	{far + 1}, {math.MinInt, math.MaxInt}, {most + 1, -most - 1, far + 1}, {math.MaxInt, 0, 0, math.MinInt},
}

// TestPointWrong sees that what is wrong with the system is told, whatever the numbers and the pushes.
func TestPointWrong(t *testing.T) {
	for _, w := range wrongSystems {
		for _, x := range numbersOf {
			for _, push := range numbersOf {
				checkPoint(t, w.s.system(), x, push, nil, w.told)
			}
		}
	}
}

// TestPointShape sees that too few or too many numbers, or pushes, are told ahead of what is wrong with them.
func TestPointShape(t *testing.T) {
	for _, g := range goodSystems {
		many := len(g.next)
		for _, x := range numbersOf {
			for _, push := range numbersOf {
				if len(x) != many || len(push) != many {
					checkPoint(t, g.system(), x, push, nil, api.ErrShape)
				}
			}
		}
	}
}

// TestPointFirst asks with several faults at once.
func TestPointFirst(t *testing.T) {
	tooFar := terms{{far + 1, 0, 0, 0}}
	two, wide := sides{{0, 5}, {0, 5}}, sides{{-most, most}, {-most, most}}
	checkPoints(t, []pointed{
		// Not as many, and a push that is not in its span, a number, or a By.
		{system{[]terms{ofX, ofY}, two}, []int{0}, []int{6, 0}, nil, api.ErrShape},
		{system{[]terms{ofX, ofY}, two}, []int{far + 1, 0}, []int{6}, nil, api.ErrShape},
		{system{[]terms{tooFar, tooFar}, two}, []int{0, 0, 0}, []int{0, 0}, nil, api.ErrShape},
		// A push, and a number.
		{system{[]terms{ofX, ofY}, two}, []int{far + 1, 0}, []int{0, 6}, nil, api.ErrRange},
		{system{[]terms{ofX, ofY}, two}, []int{0, math.MinInt}, []int{math.MaxInt, 0}, nil, api.ErrRange},
		// A push, and a By, also of a polynomial ahead of it.
		{system{[]terms{tooFar, ofY}, two}, []int{0, 0}, []int{6, 0}, nil, api.ErrRange},
		{system{[]terms{tooFar, ofY}, two}, []int{0, 0}, []int{0, -1}, nil, api.ErrRange},
		{system{[]terms{ofX, tooFar}, two}, []int{0, 0}, []int{-1, 0}, nil, api.ErrRange},
		// A push, and a sum ahead of it that is beyond what may be.
		{system{[]terms{ofX, ofY}, sides{{-most, most}, {0, 5}}}, []int{1, 0}, []int{most, 6}, nil, api.ErrRange},
		// Several pushes, several numbers.
		{system{[]terms{ofX, ofY}, two}, []int{0, 0}, []int{6, -1}, nil, api.ErrRange},
		{system{[]terms{ofX, ofY}, two}, []int{far + 1, -far - 1}, []int{0, 0}, nil, api.ErrRange},
		{system{[]terms{nil, nil, nil}, sides{{0, 0}, {0, 0}, {0, 0}}}, []int{0, math.MaxInt, math.MinInt}, []int{0, 0, 0}, nil, api.ErrRange},
		// A number, and a By of the first polynomial, or of a later one.
		{system{[]terms{tooFar, ofY}, two}, []int{far + 1, 0}, []int{0, 0}, nil, api.ErrRange},
		{system{[]terms{tooFar, ofY}, two}, []int{0, far + 1}, []int{0, 0}, nil, api.ErrRange},
		{system{[]terms{ofX, tooFar}, two}, []int{-far - 1, 0}, []int{0, 0}, nil, api.ErrRange},
		{system{[]terms{ofX, tooFar}, two}, []int{0, -far - 1}, []int{0, 0}, nil, api.ErrRange},
		{system{[]terms{tooFar, tooFar}, two}, []int{0, math.MaxInt}, []int{0, 0}, nil, api.ErrRange},
		// A number, and a sum of a polynomial without it that is beyond what may be.
		{system{[]terms{ofX, ofY}, wide}, []int{1, far + 1}, []int{most, 0}, nil, api.ErrRange},
		{system{[]terms{ofX, ofY}, wide}, []int{far + 1, 1}, []int{0, most}, nil, api.ErrRange},
		// A By, and a sum.
		{system{[]terms{ofX, tooFar}, wide}, []int{1, 0}, []int{most, 0}, nil, api.ErrFull},
		{system{[]terms{tooFar, ofX}, wide}, []int{1, 0}, []int{0, most}, nil, api.ErrFull},
	})
}

// meantWrongForm is what chapter 11 says is wrong with a polynomial of one to three unknowns.
func meantWrongForm(f []api.Term, many int) api.Errno {
	if len(f) >= 7 {
		return api.ErrFull
	}
	for _, t := range f {
		x, y, z := t.Times[0], t.Times[1], t.Times[2]
		switch {
		case t.By > most || t.By < -most:
			return api.ErrRange
		case min(x, y, z) < 0 || max(x, y, z) > 3 || x+y+z > 3:
			return api.ErrRange
		case many < 3 && z > 0 || many < 2 && y > 0:
			return api.ErrShape
		}
	}
	return api.OK
}

// meantWrongSpans is what chapter 2 says is wrong with the first of some spans that has a fault.
func meantWrongSpans(l []api.Span) api.Errno {
	for _, s := range l {
		if min(s.Lo, s.Hi) < -most || max(s.Lo, s.Hi) > most {
			return api.ErrRange
		}
		if s.Hi < s.Lo {
			return api.ErrShape
		}
	}
	return api.OK
}

// meantWrong is what the chapter says is wrong with a system.
func meantWrong(s api.System) api.Errno {
	many := len(s.Next)
	switch {
	case many == 0:
		return api.ErrNone
	case many >= 4:
		return api.ErrFull
	case len(s.Push) != many:
		return api.ErrShape
	}
	for _, f := range s.Next {
		if told := meantWrongForm(f, many); told != api.OK {
			return told
		}
	}
	return meantWrongSpans(s.Push)
}

// meantWrongOver is what it says is wrong with a system, or else with a box for it.
func meantWrongOver(s api.System, b []api.Span) api.Errno {
	if told := meantWrong(s); told != api.OK {
		return told
	}
	switch {
	case len(b) == 0:
		return api.ErrNone
	case len(b) >= 4:
		return api.ErrFull
	}
	if told := meantWrongSpans(b); told != api.OK {
		return told
	}
	if len(b) != len(s.Next) {
		return api.ErrShape
	}
	return api.OK
}

// meantOf is what it says of Of.
func meantOf(s api.System, b []api.Span) ([]api.Span, api.Errno) {
	if told := meantWrongOver(s, b); told != api.OK {
		return nil, told
	}
	var next []api.Span
	for i, f := range s.Next {
		over, err := form.Range(f, b)
		over.Lo += s.Push[i].Lo
		over.Hi += s.Push[i].Hi
		if err != nil || over.Lo < -most || over.Hi > most {
			return nil, api.ErrFull
		}
		next = append(next, over)
	}
	return next, api.OK
}

// exactly is what a polynomial is at numbers, and a push, in thousandths, without rounding.
func exactly(f []api.Term, x []int, push int) *big.Rat {
	sum := big.NewRat(int64(push), 1)
	for _, t := range f {
		product := big.NewRat(int64(t.By), 1)
		for i, n := range x {
			for range t.Times[i] {
				product.Mul(product, big.NewRat(int64(n), 1000))
			}
		}
		sum.Add(sum, product)
	}
	return sum
}

// anyTooFar tells whether Point goes less far than one of some numbers.
func anyTooFar(numbers []int) bool {
	return slices.ContainsFunc(numbers, func(n int) bool { return n > 20000 || n < -20000 })
}

// meantPoint is what it says of Point.
func meantPoint(s api.System, x, push []int) ([]int, api.Errno) {
	if told := meantWrong(s); told != api.OK {
		return nil, told
	}
	if len(x) != len(s.Next) || len(push) != len(s.Next) {
		return nil, api.ErrShape
	}
	for i, n := range push {
		if n < s.Push[i].Lo || n > s.Push[i].Hi {
			return nil, api.ErrRange
		}
	}
	if anyTooFar(x) {
		return nil, api.ErrRange
	}
	var next []int
	for i, f := range s.Next {
		for _, t := range f {
			if anyTooFar([]int{t.By}) {
				return nil, api.ErrFull
			}
		}
		is := exactly(f, x, push[i])
		// The denominator is above 0, and then Div rounds down; a push is whole, so it is the same ahead of rounding as behind.
		n := new(big.Int).Div(is.Num(), is.Denom())
		if n.CmpAbs(big.NewInt(most)) > 0 {
			return nil, api.ErrFull
		}
		next = append(next, int(n.Int64()))
	}
	return next, api.OK
}

// checkMeantOf holds CheckOver and Of against what is meant.
func checkMeantOf(t *testing.T, s api.System, b []api.Span) {
	t.Helper()
	checkCheckOver(t, s, b, meantWrongOver(s, b))
	next, told := meantOf(s, b)
	checkOf(t, s, b, next, told)
}

// checkMeantPoint holds Point against what is meant.
func checkMeantPoint(t *testing.T, s api.System, x, push []int) {
	t.Helper()
	next, told := meantPoint(s, x, push)
	checkPoint(t, s, x, push, next, told)
}

// lists gives all lists of up to some things out of all.
func lists[T any](all []T, upTo int) [][]T {
	made, last := [][]T{nil}, [][]T{nil}
	for range upTo {
		var next [][]T
		for _, l := range last {
			for _, one := range all {
				next = append(next, append(slices.Clone(l), one))
			}
		}
		made, last = append(made, next...), next
	}
	return made
}

// TestCheckAllOfEdges goes over all systems of up to four polynomials, with up to four pushes, with each kind of fault and with none.
func TestCheckAllOfEdges(t *testing.T) {
	var forms [][]api.Term
	for _, l := range []terms{ofX, ofY, {{1, 1, 0, 1}, {math.MinInt, 0, 0, 0}}, {{1, math.MaxInt, 1, 0}}, make(terms, 7)} {
		forms = append(forms, l.form())
	}
	pushes := lists(sides{{-1, 1}, {1, 0}, {0, math.MaxInt}}.box(), 4)
	for _, next := range lists(forms, 4) {
		for _, push := range pushes {
			s := api.System{Next: next, Push: push}
			checkCheck(t, s, meantWrong(s))
		}
	}
}

// TestCheckAllOfFar goes over all numbers at which something turns, as By, as times and as ends of a Push.
func TestCheckAllOfFar(t *testing.T) {
	edges := []int{math.MinInt, -most - 1, -most, -1, 0, 1, 3, 4, most, most + 1, math.MaxInt}
	for _, n := range edges {
		for _, m := range edges {
			for many := 1; many <= 3; many++ {
				for at := range many {
					s := api.System{Next: make([][]api.Term, many), Push: make([]api.Span, many)}
					s.Push[at] = api.Span{Lo: n, Hi: m}
					checkCheck(t, s, meantWrong(s))
					s.Next[at] = []api.Term{{By: 5}, {By: n, Times: [3]int{0, m, 0}}}
					checkCheck(t, s, meantWrong(s))
				}
			}
		}
	}
}

// edgeForms are polynomials of up to three unknowns, near and far.
var edgeForms = []terms{
	nil, {{7, 0, 0, 0}}, ofX, ofY, {{-333, 1, 0, 1}, {1, 0, 2, 0}}, {{far, 3, 0, 0}, {-far, 0, 0, 0}},
	{{far + 1, 0, 0, 0}}, {{most, 0, 1, 0}}, {{1, 0, 0, 0}, {1, 4, 0, 0}},
}

// edgeSystems gives all systems of up to three of these, each with other pushes.
func edgeSystems() []api.System {
	pushes := sides{{0, 0}, {-9, 4}, {-most, most}, {3, 3}, {most - 5, most}, {-most, -most + 5}, {2, 1}}
	var forms [][]api.Term
	for _, l := range edgeForms {
		forms = append(forms, l.form())
	}
	var all []api.System
	for i, next := range lists(forms, 3) {
		s := api.System{Next: next}
		for j := range next {
			// As all pushes with all polynomials would be many, others come each time; the last one is wrong, and comes seldom.
			at := (i*(j+1) + i/7 + j) % len(pushes)
			if at == len(pushes)-1 && i%3 > 0 {
				at = j
			}
			s.Push = append(s.Push, pushes[at:at+1].box()...)
		}
		all = append(all, s)
	}
	return all
}

// TestOfAllOfEdges goes over all such systems, over boxes whose sides are below 0, above it, across it, of one number, wrong, and where something turns.
func TestOfAllOfEdges(t *testing.T) {
	edges := sides{{0, 0}, {-333, 7}, {-3001, -1999}, {999, 1001}, {-most, most}, {5, 4}, {math.MinInt, math.MaxInt}}.box()
	boxes := append(lists(edges, 3), sides{{0, 0}, {0, 0}, {0, 0}, {0, 0}}.box())
	for _, s := range edgeSystems() {
		for _, b := range boxes {
			checkMeantOf(t, s, b)
		}
	}
}

// TestPointAllOfEdges goes over all such systems, at numbers below 0, above it, and where something turns, with pushes at the ends of their spans and one beyond.
func TestPointAllOfEdges(t *testing.T) {
	points := lists([]int{math.MinInt, -far, -1, 0, 1733, far + 1}, 3)
	for i, s := range edgeSystems() {
		for j, x := range points {
			// One push too few, or too many, comes seldom.
			push := make([]int, max(0, len(s.Next)+(i+j)%11/9-(i+j)%13/12))
			for k := range push {
				if k < len(s.Push) {
					push[k] = []int{s.Push[k].Lo, s.Push[k].Hi, s.Push[k].Lo + 1, s.Push[k].Hi, s.Push[k].Lo}[(i+j+k)%5]
				}
			}
			checkMeantPoint(t, s, x, push)
		}
	}
}

// TestPushAllOfEdges goes over all numbers at which something turns, as pushes and as ends of their spans.
func TestPushAllOfEdges(t *testing.T) {
	edges := []int{math.MinInt, -most - 1, -most, -most + 1, -1, 0, 1, most - 1, most, most + 1, math.MaxInt}
	for _, lo := range edges {
		for _, hi := range edges {
			for _, n := range edges {
				for _, by := range []int{-1, 0, 1} {
					s := api.System{Next: [][]api.Term{{{By: by}}}, Push: []api.Span{{Lo: lo, Hi: hi}}}
					checkMeantPoint(t, s, []int{n % (far + 1)}, []int{n})
					checkMeantOf(t, s, []api.Span{{Lo: 0, Hi: n}})
				}
			}
		}
	}
}

// TestNoPointFallsOut asks whether what is next of numbers of a box, with pushes of their spans, is in what may be next of that box.
func TestNoPointFallsOut(t *testing.T) {
	places := sides{{-3000, -1999}, {-7, 0}, {-1500, 1733}, {0, 999}, {1234, 1234}, {2001, 4000}}.box()
	for _, s := range []system{
		{[]terms{nil}, sides{{-3, 3}}},
		{[]terms{{{500, 1, 0, 0}, {-333, 2, 0, 0}, {77, 3, 0, 0}}}, sides{{-9, -2}}},
		{[]terms{{{1, 1, 0, 0}}}, sides{{5, 5}}},
		turn,
		{[]terms{{{-777, 1, 2, 0}, {1, 3, 0, 0}}, {{333, 1, 0, 0}}}, sides{{0, 0}, {4, 40}}},
		cycle,
		{[]terms{{{1, 3, 0, 0}, {-2, 0, 3, 0}, {3, 0, 0, 3}}, {{-4, 2, 1, 0}, {5, 0, 2, 1}, {-6, 1, 0, 2}}, nil}, sides{{-8, 8}, {-5, -1}, {1, 9}}},
		{[]terms{{{999, 1, 0, 1}, {-999, 1, 0, 1}}, {{501, 0, 1, 2}}, {{1000, 1, 1, 1}, {-1, 0, 0, 0}}}, sides{{0, 1}, {-1, 0}, {-1, 1}}},
	} {
		for _, b := range lists(places, 3) {
			if len(b) == len(s.next) {
				noPointFallsOut(t, s.system(), b)
			}
		}
	}
}

func noPointFallsOut(t *testing.T, s api.System, b []api.Span) {
	t.Helper()
	next, err := step.Of(s, b)
	if err != nil {
		t.Fatalf("Of(%v, %v): %v", s, b, err)
	}
	for i, parts := range lists([]int{0, 1, 3}, len(b)) {
		if len(parts) != len(b) {
			continue
		}
		x, push := make([]int, len(b)), make([]int, len(b))
		for k := range b {
			x[k] = partOf(b[k], parts[k])
			push[k] = partOf(s.Push[k], []int{0, 3, 2}[(i+k)%3])
		}
		at, err := step.Point(s, x, push)
		if err != nil {
			t.Fatalf("Point(%v, %v, %v): %v", s, x, push, err)
		}
		for k, side := range next {
			if at[k] < side.Lo || at[k] > side.Hi {
				t.Errorf("Of(%v, %v) = %v, and Point(%v, %v), %v, is not in that", s, b, next, x, push, at)
			}
			is := exactly(s.Next[k], x, push[k])
			if is.Cmp(big.NewRat(int64(side.Lo), 1)) < 0 || is.Cmp(big.NewRat(int64(side.Hi), 1)) > 0 {
				t.Errorf("Of(%v, %v) = %v, and what is next of %v, %v, is not in that", s, b, next, x, is)
			}
		}
	}
}

// partOf gives the number so many thirds into a span.
func partOf(s api.Span, thirds int) int { return s.Lo + (s.Hi-s.Lo)*thirds/3 }

// TestShared asks with one list at several places: that makes no difference, and none of them is what is told.
func TestShared(t *testing.T) {
	f := terms{{1000, 1, 0, 0}, {1000, 0, 1, 0}}.form()
	spans := sides{{-5, 5}, {1, 2}}.box()
	s := api.System{Next: [][]api.Term{f, f}, Push: spans}
	numbers := []int{-4, 2}
	for range 3 {
		b, err := step.Of(s, spans)
		if want := (sides{{-9, 12}, {-3, 9}}).box(); !slices.Equal(b, want) || err != nil {
			t.Errorf("Of(%v, %v) = %v, %v; want %v", s, spans, b, err, want)
		}
		x, err := step.Point(s, numbers, numbers)
		if want := []int{-6, 0}; !slices.Equal(x, want) || err != nil {
			t.Errorf("Point(%v, %v, %v) = %v, %v; want %v", s, numbers, numbers, x, err, want)
		}
		spoilBox(b)
		spoil(x, behind)
	}
}

// TestFresh sees that what a call told before is not written over by a later one.
func TestFresh(t *testing.T) {
	s := turn.system()
	b := sides{{1000, 2000}, {-1000, 1000}}.box()
	first, _ := step.Of(s, b)
	at, _ := step.Point(s, []int{1500, -500}, []int{0, 10})
	keptBox, keptAt := slices.Clone(first), slices.Clone(at)
	for range 3 {
		other, _ := step.Of(s, first)
		spoilBox(other)
		there, _ := step.Point(s, at, []int{5, 10})
		spoil(there, behind)
	}
	if !slices.Equal(first, keptBox) || !slices.Equal(at, keptAt) {
		t.Errorf("what was told as %v and %v is now %v and %v", keptBox, keptAt, first, at)
	}
}

// TestAgain asks the same again, behind other calls: what is told hangs on what is handed in alone.
func TestAgain(t *testing.T) {
	s := turn.system()
	b := sides{{1000, 2000}, {-1000, 1000}}.box()
	for range 3 {
		checkCheck(t, s, api.OK)
		checkOf(t, s, b, sides{{695, 2005}, {-1290, 710}}.box(), api.OK)
		checkPoint(t, s, []int{1500, -500}, []int{0, 10}, []int{1250, -740}, api.OK)
		checkCheck(t, api.System{Next: s.Next}, api.ErrShape)
		checkOf(t, s, nil, nil, api.ErrNone)
		checkPoint(t, s, []int{1500, -500}, []int{0, 11}, nil, api.ErrRange)
	}
}

// timesThatMayBe gives how often three unknowns may stand in a Term.
func timesThatMayBe() [][3]int {
	var l [][3]int
	for _, times := range lists([]int{0, 1, 2, 3}, 3) {
		if len(times) == 3 && times[0]+times[1]+times[2] <= 3 {
			l = append(l, [3]int(times))
		}
	}
	return l
}

// madeUp is a system of so many polynomials and pushes, out of some numbers and whatever pick picks.
func madeUp(many, pushes int, pick uint32, numbers []int) api.System {
	good := timesThatMayBe()
	s := api.System{Next: make([][]api.Term, many), Push: make([]api.Span, pushes)}
	rest := pick
	for i := range s.Next {
		s.Next[i] = make([]api.Term, rest%8)
		for j := range s.Next[i] {
			rest = rest/3 + pick + uint32(i+j)
			times := good[int(rest)%len(good)]
			// Most Terms would have unknowns that are not there, were they not left out here.
			for k := many; k < len(times) && rest%31 > 0; k++ {
				times[k] = 0
			}
			s.Next[i][j] = api.Term{By: numbers[(i+j)%len(numbers)], Times: times}
		}
	}
	for i := range s.Push {
		lo, hi := numbers[(i+1)%len(numbers)], numbers[(2*i+2)%len(numbers)]
		s.Push[i] = api.Span{Lo: min(lo, hi), Hi: max(lo, hi)}
	}
	return s
}

// FuzzNext holds systems of up to four unknowns, over any box, at any numbers and with any pushes, against what is meant.
func FuzzNext(f *testing.F) {
	f.Add(uint8(2), uint8(2), uint8(2), uint32(1), -500, 250, 7, -4000, -3998, -3551, -551)
	f.Add(uint8(3), uint8(3), uint8(3), uint32(987654321), 1, -2, 3, -1000, 2000, 5, -7)
	f.Add(uint8(4), uint8(1), uint8(0), uint32(0), math.MinInt, math.MaxInt, 0, math.MaxInt, math.MinInt, 0, 1)
	f.Fuzz(func(t *testing.T, many, pushes, wide uint8, pick uint32, a, b, c, p, q, r, s int) {
		for _, bound := range []int{math.MaxInt, most + 2, far + 2, 3000} {
			// Most ints are none that may be, and most products are beyond it, so they are brought near as well.
			numbers := []int{a % bound, b % bound, c % bound, p % bound, q % bound, r % bound, s % bound}
			for _, as := range [][3]uint8{{many, pushes, wide}, {many, many, many}} {
				made := madeUp(int(as[0]%5), int(as[1]%5), pick, numbers)
				over, x, push := make([]api.Span, as[2]%5), make([]int, as[2]%5), make([]int, as[1]%5)
				for i := range over {
					lo, hi := numbers[3+i%4], numbers[3+(i+1)%4]
					over[i], x[i] = api.Span{Lo: min(lo, hi), Hi: max(lo, hi)}, lo
				}
				for i := range push {
					push[i] = made.Push[i].Lo
				}
				checkCheck(t, made, meantWrong(made))
				checkMeantOf(t, made, over)
				checkMeantPoint(t, made, x, push)
				checkMeantPoint(t, made, x, x)
			}
		}
	})
}
