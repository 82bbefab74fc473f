package near_test

import (
	"math"
	"math/big"
	"slices"
	"testing"

	"spanmeadow/api"
	"spanmeadow/box"
	"spanmeadow/flow"
	"spanmeadow/form"
	"spanmeadow/hold"
	"spanmeadow/near"
	"spanmeadow/plain"
	"spanmeadow/step"
)

// top is the greatest number that may be.
const top = api.MaxNumber

// far is how far from 0 the numbers are of which Point tells what is next.
const far = 20 * api.One

// behind is what is laid behind a list's length, and over what a call told, to tell whether memory is shared.
const behind = 4711

// terms of a polynomial: by, and how often each unknown.
type terms [][4]int

// form of these terms; of none nil stays nil, so that it is asked too.
func (l terms) form() []api.Term {
	if l == nil {
		return nil
	}
	f := make([]api.Term, len(l))
	for i, t := range l {
		f[i] = api.Term{By: t[0], Times: [3]int(t[1:])}
	}
	return f
}

// sides of a box, or pushes, by their ends.
type sides [][2]int

// box of these sides, likewise.
func (l sides) box() []api.Span {
	if l == nil {
		return nil
	}
	b := make([]api.Span, len(l))
	for i, ends := range l {
		b[i] = api.Span{Lo: ends[0], Hi: ends[1]}
	}
	return b
}

// system of polynomials and pushes.
type system struct {
	next []terms
	push sides
}

func (s system) system() api.System {
	made := api.System{Push: s.push.box()}
	if s.next != nil {
		made.Next = make([][]api.Term, len(s.next))
	}
	for i, l := range s.next {
		made.Next[i] = l.form()
	}
	return made
}

// handed is a list for a call, with memory behind its length; unchanged tells whether all of it is as it was.
func handed[T comparable](l []T, after T) (list []T, unchanged func() bool) {
	if l == nil {
		return nil, func() bool { return true }
	}
	whole := append(slices.Clone(l), after, after)
	before := slices.Clone(whole)
	return whole[:len(l)], func() bool { return slices.Equal(whole, before) }
}

// handedLists is likewise a list of lists, with memory behind it and behind each of them.
func handedLists[T comparable](l [][]T, after T) (list [][]T, unchanged func() bool) {
	if l == nil {
		return nil, func() bool { return true }
	}
	whole, asks := make([][]T, 0, len(l)+2), []func() bool{}
	for _, one := range l {
		inner, same := handed(one, after)
		whole, asks = append(whole, inner), append(asks, same)
	}
	whole = append(whole, []T{after}, nil)
	before := slices.Clone(whole)
	return whole[:len(l)], func() bool {
		return slices.EqualFunc(whole, before, sameMemory) &&
			!slices.ContainsFunc(asks, func(same func() bool) bool { return !same() })
	}
}

// sameMemory tells whether two lists are one.
func sameMemory[T any](a, b []T) bool {
	return len(a) == len(b) && cap(a) == cap(b) && (cap(a) == 0 || &a[:1][0] == &b[:1][0])
}

// wrongTerm is laid behind Terms: whoever reads it tells an error.
var wrongTerm = api.Term{By: math.MinInt, Times: [3]int{behind, -behind, behind}}

func handedBox(b []api.Span) ([]api.Span, func() bool) {
	return handed(b, api.Span{Lo: behind, Hi: -behind})
}

// handedSystem is a system for a call, with memory behind each of its lists.
func handedSystem(s api.System) (api.System, func() bool) {
	next, nextSame := handedLists(s.Next, wrongTerm)
	push, pushSame := handedBox(s.Push)
	return api.System{Next: next, Push: push}, func() bool { return nextSame() && pushSame() }
}

// spoil writes over all of a list's memory; where that changes another list, the two share it.
func spoil[T any](l []T, by T) {
	all := l[:cap(l)]
	for i := range all {
		all[i] = by
	}
}

func checkSteep(t *testing.T, f []api.Term, many, by int, want []api.Term, told api.Errno) {
	t.Helper()
	list, unchanged := handed(f, wrongTerm)
	got, err := near.Steep(list, many, by)
	if !slices.Equal(got, want) || plain.Told(err) != told {
		t.Errorf("Steep(%v, %d, %d) = %v, %v; want %v, %v", f, many, by, got, err, want, told)
	}
	if !unchanged() {
		t.Errorf("Steep(%v, %d, %d) changed what it was handed", f, many, by)
	}
	spoil(got, api.Term{By: behind})
	if !unchanged() {
		t.Errorf("Steep(%v, %d, %d) told what shares memory with what it was handed", f, many, by)
	}
}

func checkBound(t *testing.T, s api.System, b []api.Span, want int, told api.Errno) {
	t.Helper()
	list, listSame := handedSystem(s)
	over, overSame := handedBox(b)
	if got, err := near.Bound(list, over); got != want || plain.Told(err) != told {
		t.Errorf("Bound(%v, %v) = %v, %v; want %v, %v", s, b, got, err, want, told)
	}
	if !listSame() || !overSame() {
		t.Errorf("Bound(%v, %v) changed what it was handed", s, b)
	}
}

func checkPull(t *testing.T, s api.System, b []api.Span, want bool, told api.Errno) {
	t.Helper()
	list, listSame := handedSystem(s)
	over, overSame := handedBox(b)
	if got, err := near.Pull(list, over); got != want || plain.Told(err) != told {
		t.Errorf("Pull(%v, %v) = %v, %v; want %v, %v", s, b, got, err, want, told)
	}
	if !listSame() || !overSame() {
		t.Errorf("Pull(%v, %v) changed what it was handed", s, b)
	}
}

// checkNot sees that Bound and Pull tell what is wrong, and nothing else.
func checkNot(t *testing.T, s api.System, b []api.Span, told api.Errno) {
	t.Helper()
	checkBound(t, s, b, 0, told)
	checkPull(t, s, b, false, told)
}

// steeped is a polynomial, the fewest unknowns that it may be of, and its Steep by the first unknown, the second and the third.
type steeped struct {
	f     terms
	least int
	by    [3]terms
}

var steeps = []steeped{
	// Of no Term, and of Terms of which none has an unknown.
	{nil, 1, [3]terms{}},
	{terms{}, 1, [3]terms{}},
	{terms{{1, 1, 0, 0}}[:0], 1, [3]terms{}},
	{terms{{500, 0, 0, 0}}, 1, [3]terms{}},
	{terms{{-500, 0, 0, 0}, {7, 0, 0, 0}, {0, 0, 0, 0}}, 1, [3]terms{}},
	// One unknown, alone in its Term: once, twice and three times; By above 0, below 0 and 0.
	{terms{{500, 1, 0, 0}}, 1, [3]terms{{{500, 0, 0, 0}}}},
	{terms{{500, 2, 0, 0}}, 1, [3]terms{{{1000, 1, 0, 0}}}},
	{terms{{500, 3, 0, 0}}, 1, [3]terms{{{1500, 2, 0, 0}}}},
	{terms{{-7, 1, 0, 0}}, 1, [3]terms{{{-7, 0, 0, 0}}}},
	{terms{{-7, 2, 0, 0}}, 1, [3]terms{{{-14, 1, 0, 0}}}},
	{terms{{-7, 3, 0, 0}}, 1, [3]terms{{{-21, 2, 0, 0}}}},
	{terms{{0, 1, 0, 0}}, 1, [3]terms{{{0, 0, 0, 0}}}},
	{terms{{0, 3, 0, 0}, {0, 0, 0, 0}}, 1, [3]terms{{{0, 2, 0, 0}}}},
	{terms{{1, 0, 1, 0}}, 2, [3]terms{nil, {{1, 0, 0, 0}}}},
	{terms{{1, 0, 2, 0}}, 2, [3]terms{nil, {{2, 0, 1, 0}}}},
	{terms{{1, 0, 3, 0}}, 2, [3]terms{nil, {{3, 0, 2, 0}}}},
	{terms{{-1, 0, 0, 1}}, 3, [3]terms{nil, nil, {{-1, 0, 0, 0}}}},
	{terms{{-1, 0, 0, 2}}, 3, [3]terms{nil, nil, {{-2, 0, 0, 1}}}},
	{terms{{-1, 0, 0, 3}}, 3, [3]terms{nil, nil, {{-3, 0, 0, 2}}}},
	// Beside other unknowns.
	{terms{{10, 1, 1, 0}}, 2, [3]terms{{{10, 0, 1, 0}}, {{10, 1, 0, 0}}}},
	{terms{{-500, 1, 2, 0}}, 2, [3]terms{{{-500, 0, 2, 0}}, {{-1000, 1, 1, 0}}}},
	{terms{{30, 2, 1, 0}}, 2, [3]terms{{{60, 1, 1, 0}}, {{30, 2, 0, 0}}}},
	{terms{{10, 1, 0, 1}}, 3, [3]terms{{{10, 0, 0, 1}}, nil, {{10, 1, 0, 0}}}},
	{terms{{10, 0, 1, 2}}, 3, [3]terms{nil, {{10, 0, 0, 2}}, {{20, 0, 1, 1}}}},
	{terms{{10, 2, 0, 1}}, 3, [3]terms{{{20, 1, 0, 1}}, nil, {{10, 2, 0, 0}}}},
	{terms{{-10, 1, 1, 1}}, 3, [3]terms{{{-10, 0, 1, 1}}, {{-10, 1, 0, 1}}, {{-10, 1, 1, 0}}}},
	{terms{{0, 1, 1, 1}}, 3, [3]terms{{{0, 0, 1, 1}}, {{0, 1, 0, 1}}, {{0, 1, 1, 0}}}},
	// Some Terms that have it, ahead, between and behind, and all of them; in the order in which they came.
	{terms{{20000, 1, 0, 0}, {3216, 0, 0, 0}, {486, 2, 1, 0}}, 2, [3]terms{{{20000, 0, 0, 0}, {972, 1, 1, 0}}, {{486, 2, 0, 0}}}},
	{terms{{3, 0, 0, 0}, {5, 3, 0, 0}, {8, 0, 0, 0}}, 1, [3]terms{{{15, 2, 0, 0}}}},
	{terms{{1, 3, 0, 0}, {2, 2, 0, 0}, {3, 1, 0, 0}}, 1, [3]terms{{{3, 2, 0, 0}, {4, 1, 0, 0}, {3, 0, 0, 0}}}},
	{terms{{3, 1, 0, 0}, {2, 2, 0, 0}, {1, 3, 0, 0}}, 1, [3]terms{{{3, 0, 0, 0}, {4, 1, 0, 0}, {3, 2, 0, 0}}}},
	{
		terms{{1, 1, 0, 0}, {2, 0, 1, 0}, {3, 0, 0, 1}, {4, 1, 2, 0}, {5, 0, 1, 2}, {6, 2, 0, 1}}, 3,
		[3]terms{
			{{1, 0, 0, 0}, {4, 0, 2, 0}, {12, 1, 0, 1}},
			{{2, 0, 0, 0}, {8, 1, 1, 0}, {5, 0, 0, 2}},
			{{3, 0, 0, 0}, {10, 0, 1, 1}, {6, 2, 0, 0}},
		},
	},
	{
		terms{{1, 1, 1, 1}, {2, 1, 1, 1}, {-3, 1, 1, 1}, {4, 1, 1, 1}, {5, 1, 1, 1}, {6, 1, 1, 1}}, 3,
		[3]terms{
			{{1, 0, 1, 1}, {2, 0, 1, 1}, {-3, 0, 1, 1}, {4, 0, 1, 1}, {5, 0, 1, 1}, {6, 0, 1, 1}},
			{{1, 1, 0, 1}, {2, 1, 0, 1}, {-3, 1, 0, 1}, {4, 1, 0, 1}, {5, 1, 0, 1}, {6, 1, 0, 1}},
			{{1, 1, 1, 0}, {2, 1, 1, 0}, {-3, 1, 1, 0}, {4, 1, 1, 0}, {5, 1, 1, 0}, {6, 1, 1, 0}},
		},
	},
	// Terms that come to alike ones are told one by one, also where they are nought together.
	{terms{{7, 1, 0, 0}, {7, 1, 0, 0}}, 1, [3]terms{{{7, 0, 0, 0}, {7, 0, 0, 0}}}},
	{terms{{2109, 3, 0, 0}, {-690, 3, 0, 0}}, 1, [3]terms{{{6327, 2, 0, 0}, {-2070, 2, 0, 0}}}},
	{terms{{9, 1, 1, 0}, {1, 0, 0, 0}, {-9, 1, 1, 0}}, 2, [3]terms{{{9, 0, 1, 0}, {-9, 0, 1, 0}}, {{9, 1, 0, 0}, {-9, 1, 0, 0}}}},
	{terms{{5, 2, 0, 0}, {10, 2, 0, 0}, {5, 2, 0, 0}}, 1, [3]terms{{{10, 1, 0, 0}, {20, 1, 0, 0}, {10, 1, 0, 0}}}},
	// As much as may be, or the most that three times come to.
	{terms{{top, 1, 0, 0}, {-top, 1, 0, 0}}, 1, [3]terms{{{top, 0, 0, 0}, {-top, 0, 0, 0}}}},
	{terms{{top / 2, 2, 0, 0}, {-top / 2, 2, 0, 0}}, 1, [3]terms{{{top, 1, 0, 0}, {-top, 1, 0, 0}}}},
	{terms{{333333333, 3, 0, 0}, {-333333333, 3, 0, 0}}, 1, [3]terms{{{999999999, 2, 0, 0}, {-999999999, 2, 0, 0}}}},
	{terms{{top, 1, 1, 1}, {top / 2, 0, 0, 2}, {-333333333, 0, 3, 0}}, 3, [3]terms{
		{{top, 0, 1, 1}},
		{{top, 1, 0, 1}, {-999999999, 0, 2, 0}},
		{{top, 1, 1, 0}, {top, 0, 0, 1}},
	}},
	// As much as may be without the unknown: that is left out.
	{terms{{top, 0, 0, 0}, {-top, 0, 0, 0}, {2, 1, 0, 0}}, 1, [3]terms{{{2, 0, 0, 0}}}},
}

// TestSteep asks by each unknown, also of more unknowns than stand in a Term: by those nothing changes.
func TestSteep(t *testing.T) {
	for _, c := range steeps {
		for many := c.least; many <= 3; many++ {
			for by := range many {
				checkSteep(t, c.f.form(), many, by, c.by[by].form(), api.OK)
			}
		}
	}
}

// TestSteepFull asks one beyond where a By may be, and by other unknowns of the same Terms.
func TestSteepFull(t *testing.T) {
	for _, n := range []int{top/2 + 1, -top/2 - 1, top, -top} {
		checkSteep(t, terms{{n, 2, 0, 0}}.form(), 1, 0, nil, api.ErrFull)
		checkSteep(t, terms{{n, 2, 0, 0}}.form(), 3, 0, nil, api.ErrFull)
		checkSteep(t, terms{{n, 0, 2, 0}}.form(), 2, 1, nil, api.ErrFull)
		checkSteep(t, terms{{n, 0, 1, 2}}.form(), 3, 2, nil, api.ErrFull)
		checkSteep(t, terms{{n, 0, 1, 2}}.form(), 3, 1, terms{{n, 0, 0, 2}}.form(), api.OK)
		checkSteep(t, terms{{n, 0, 1, 2}}.form(), 3, 0, nil, api.OK)
		checkSteep(t, terms{{n, 1, 1, 1}}.form(), 3, 1, terms{{n, 1, 0, 1}}.form(), api.OK)
	}
	for _, n := range []int{333333334, -333333334, top / 2, -top / 2, top, -top} {
		checkSteep(t, terms{{n, 3, 0, 0}}.form(), 1, 0, nil, api.ErrFull)
		checkSteep(t, terms{{n, 0, 3, 0}}.form(), 3, 1, nil, api.ErrFull)
		checkSteep(t, terms{{n, 0, 0, 3}}.form(), 3, 2, nil, api.ErrFull)
		checkSteep(t, terms{{n, 0, 0, 3}}.form(), 3, 0, nil, api.OK)
	}
	// Wherever it stands, and whatever stands beside it.
	checkSteep(t, terms{{top, 3, 0, 0}, {1, 1, 0, 0}, {1, 0, 0, 0}}.form(), 1, 0, nil, api.ErrFull)
	checkSteep(t, terms{{1, 1, 0, 0}, {1, 0, 0, 0}, {top, 3, 0, 0}}.form(), 1, 0, nil, api.ErrFull)
	checkSteep(t, terms{{1, 1, 0, 0}, {top, 2, 0, 0}, {-top, 2, 0, 0}, {5, 0, 0, 0}}.form(), 1, 0, nil, api.ErrFull)
	checkSteep(t, terms{{}, {}, {}, {}, {}, {-top / 2, 3, 0, 0}}.form(), 2, 0, nil, api.ErrFull)
}

// wrongForms are polynomials with a fault for so many unknowns, and which; where several are wrong with one, what is told first.
var wrongForms = []struct {
	f    terms
	many int
	told api.Errno
}{
	// Too many, whatever else is wrong with them.
	{make(terms, 7), 1, api.ErrFull},
	{make(terms, 7), 3, api.ErrFull},
	{make(terms, 1000), 2, api.ErrFull},
	{terms{{top + 1, 0, 0, 0}, {}, {}, {}, {}, {}, {}}, 1, api.ErrFull},
	{terms{{1, -1, 4, 0}, {}, {}, {}, {}, {}, {}}, 2, api.ErrFull},
	{terms{{}, {}, {}, {}, {}, {}, {1, 0, 1, 0}}, 1, api.ErrFull},
	// By, also of a Term that has not the unknown.
	{terms{{top + 1, 0, 0, 0}}, 1, api.ErrRange},
	{terms{{-top - 1, 1, 0, 0}}, 2, api.ErrRange},
	{terms{{math.MaxInt, 1, 1, 1}}, 3, api.ErrRange},
	{terms{{math.MinInt, 3, 0, 0}}, 1, api.ErrRange},
	{terms{{1, 1, 0, 0}, {math.MinInt, 0, 0, 0}}, 2, api.ErrRange},
	// A time, and all of them together.
	{terms{{1, -1, 0, 0}}, 1, api.ErrRange},
	{terms{{1, 0, -1, 0}}, 2, api.ErrRange},
	{terms{{1, 0, 0, 4}}, 3, api.ErrRange},
	{terms{{1, math.MinInt, 0, 0}}, 1, api.ErrRange},
	{terms{{1, 0, math.MaxInt, 0}}, 2, api.ErrRange},
	{terms{{1, 0, 0, math.MinInt}}, 3, api.ErrRange},
	{terms{{1, 4, -1, 0}}, 3, api.ErrRange},
	{terms{{1, math.MaxInt, math.MaxInt, 2}}, 3, api.ErrRange},
	{terms{{1, 2, 2, 0}}, 2, api.ErrRange},
	{terms{{1, 2, 1, 1}}, 3, api.ErrRange},
	// An unknown that is not there.
	{terms{{1, 0, 1, 0}}, 1, api.ErrShape},
	{terms{{1, 1, 1, 1}}, 1, api.ErrShape},
	{terms{{1, 0, 0, 1}}, 2, api.ErrShape},
	{terms{{0, 0, 0, 3}}, 2, api.ErrShape},
	// One Term with several faults.
	{terms{{top + 1, 0, 1, 0}}, 1, api.ErrRange},
	{terms{{1, 0, 4, 0}}, 1, api.ErrRange},
	{terms{{1, 3, 0, 1}}, 2, api.ErrRange},
	{terms{{math.MinInt, math.MinInt, math.MaxInt, math.MinInt}}, 1, api.ErrRange},
	// Several Terms: the first one's is told.
	{terms{{1, 1, 0, 0}, {1, 0, 1, 0}, {top + 1, 0, 0, 0}}, 1, api.ErrShape},
	{terms{{1, 0, 0, 2}, {1, -1, 0, 0}}, 2, api.ErrShape},
	{terms{{1, 4, 0, 0}, {1, 0, 1, 0}}, 1, api.ErrRange},
	// Behind a By that would be beyond what may be.
	{terms{{top, 3, 0, 0}, {1, 0, 1, 0}}, 1, api.ErrShape},
	{terms{{top, 2, 0, 0}, {1, 4, 0, 0}}, 2, api.ErrRange},
}

// wrongMany are numbers of unknowns that may not be; wrongUnknown are unknowns that no polynomial has.
var (
	wrongMany    = []int{0, 4, -1, -2, -3, 5, 1000, math.MinInt, math.MaxInt}
	wrongUnknown = []int{-1, -2, -3, 3, 4, 1000, math.MinInt, math.MinInt + 1, math.MaxInt - 1, math.MaxInt}
)

// TestSteepWrong sees that what is wrong with the polynomial is told, whether there is such an unknown or not.
func TestSteepWrong(t *testing.T) {
	for _, w := range wrongForms {
		for _, by := range append([]int{0, 1, 2}, wrongUnknown...) {
			checkSteep(t, w.f.form(), w.many, by, nil, w.told)
			for _, many := range wrongMany {
				checkSteep(t, w.f.form(), many, by, nil, api.ErrRange)
			}
		}
	}
}

// TestSteepNoUnknown sees that an unknown that is not there is told, also where a By would be beyond what may be.
func TestSteepNoUnknown(t *testing.T) {
	fulls := []steeped{{f: terms{{top, 3, 0, 0}}, least: 1}, {f: terms{{top, 0, 0, 3}}, least: 3}}
	for _, c := range append(fulls, steeps...) {
		for many := c.least; many <= 3; many++ {
			for _, by := range append([]int{0, 1, 2}, wrongUnknown...) {
				if by < 0 || by >= many {
					checkSteep(t, c.f.form(), many, by, nil, api.ErrRange)
				}
			}
		}
		for _, many := range wrongMany {
			for _, by := range append([]int{0, 1, 2}, wrongUnknown...) {
				checkSteep(t, c.f.form(), many, by, nil, api.ErrRange)
			}
		}
	}
}

// exactly is what a polynomial is at numbers, in thousandths, without rounding.
func exactly(f []api.Term, x []int) *big.Rat {
	sum := new(big.Rat)
	for _, t := range f {
		product := big.NewRat(int64(t.By), 1)
		for i, n := range x {
			for range t.Times[i] {
				product.Mul(product, big.NewRat(int64(n), 1000))
			}
		}
		sum.Add(sum, product)
	}
	return sum
}

// changeAt is how a polynomial changes by an unknown there, by what it is at four numbers about: of one of which no Term has the unknown more than four times, that is just so.
func changeAt(f []api.Term, x []int, by int) *big.Rat {
	sum := new(big.Rat)
	for _, part := range [][2]int64{{-2, 1}, {-1, -8}, {1, 8}, {2, -1}} {
		about := slices.Clone(x)
		about[by] += int(part[0]) * 1000
		sum.Add(sum, new(big.Rat).Mul(exactly(f, about), big.NewRat(part[1], 12)))
	}
	return sum
}

// TestSteepIsTheChange holds what Steep tells, at some numbers, against how the polynomial changes there.
func TestSteepIsTheChange(t *testing.T) {
	points := [][]int{{0, 0, 0}, {1000, 1000, 1000}, {-1500, 333, 7}, {5, -2001, 1}, {12345, 999, -777}}
	for _, c := range steeps {
		for many := c.least; many <= 3; many++ {
			for by := range many {
				steep, err := near.Steep(c.f.form(), many, by)
				if err != nil {
					t.Fatalf("Steep(%v, %d, %d): %v", c.f, many, by, err)
				}
				for _, x := range points {
					if is, want := exactly(steep, x), changeAt(c.f.form(), x, by); is.Cmp(want) != 0 {
						t.Errorf("Steep(%v, %d, %d) is %v at %v; want %v", c.f, many, by, is, x, want)
					}
				}
			}
		}
	}
}

// The polynomials and systems that several tests take.
var (
	ofX = terms{{1000, 1, 0, 0}}
	ofY = terms{{1000, 0, 1, 0}}
	ofZ = terms{{1000, 0, 0, 1}}
	// some and less change by all unknowns, less by less.
	some = terms{{300, 1, 0, 0}, {-200, 0, 1, 0}, {100, 0, 0, 1}}
	less = terms{{2, 1, 0, 0}, {2, 0, 0, 1}}

	none   = system{[]terms{nil}, sides{{-30, 10}}}
	still  = system{[]terms{{{7, 0, 0, 0}, {-900, 0, 0, 0}}}, sides{{0, 0}}}
	half   = system{[]terms{{{500, 1, 0, 0}}}, sides{{-10, 20}}}
	back   = system{[]terms{{{-500, 1, 0, 0}}}, sides{{3, 3}}}
	little = system{[]terms{{{-1, 1, 0, 0}}}, sides{{-7, 7}}}
	square = system{[]terms{{{1000, 2, 0, 0}, {-750, 0, 0, 0}}}, sides{{-1, 1}}}
	cube   = system{[]terms{{{-333, 3, 0, 0}}}, sides{{0, 0}}}
	many   = system{[]terms{{{200, 3, 0, 0}, {-100, 2, 0, 0}, {300, 1, 0, 0}, {50, 0, 0, 0}}}, sides{{-4, 0}}}
	alike  = system{[]terms{{{400, 1, 0, 0}, {-300, 1, 0, 0}, {400, 1, 0, 0}}}, sides{{0, 0}}}
	double = system{[]terms{{{2000, 1, 0, 0}}}, sides{{0, 0}}}
	empty  = system{[]terms{nil, {}}, sides{{-1, 22}, {16, 18}}}
	turn   = system{[]terms{{{900, 1, 0, 0}, {200, 0, 1, 0}}, {{-200, 1, 0, 0}, {900, 0, 1, 0}}}, sides{{-5, 5}, {10, 10}}}
	calm   = system{[]terms{{{500, 1, 0, 0}, {200, 0, 1, 0}}, {{-200, 1, 0, 0}, {500, 0, 1, 0}}}, sides{{-5, 5}, {10, 10}}}
	first  = system{[]terms{{{-600, 1, 0, 0}, {-300, 0, 1, 0}}, {{100, 1, 0, 0}, {100, 0, 1, 0}}}, make(sides, 2)}
	second = system{[]terms{{{100, 1, 0, 0}, {100, 0, 1, 0}}, {{-600, 1, 0, 0}, {-300, 0, 1, 0}}}, make(sides, 2)}
	swap   = system{[]terms{ofY, ofX}, sides{{1, 1}, {20, 20}}}
	mixed  = system{[]terms{{}, {{1000, 1, 1, 0}, {7, 0, 0, 0}}}, sides{{-2, 3}, {0, 1}}}
	wild   = system{[]terms{{{300, 2, 0, 0}, {-200, 1, 1, 0}}, {{100, 0, 3, 0}, {-400, 1, 0, 0}}}, sides{{-3, 4}, {0, 0}}}
	hush   = system{[]terms{nil, nil, nil}, sides{{-5, 5}, {7, 7}, {-9, -8}}}
	cycle  = system{[]terms{ofY, ofZ, {{1000, 1, 1, 1}}}, sides{{-1, 1}, {0, 0}, {2, 3}}}
	three  = system{[]terms{nil, {{1000, 1, 0, 1}}, {{7, 0, 0, 0}, {250, 0, 1, 0}, {-125, 2, 0, 0}}}, sides{{5, 6}, {-1, 0}, {0, 1}}}
	chain  = system{[]terms{{{500, 0, 1, 0}}, {{500, 0, 0, 1}, {3, 0, 0, 0}}, {{-250, 1, 0, 0}, {100, 0, 1, 1}}}, sides{{-1, 1}, {0, 0}, {20, 40}}}
	ring   = system{[]terms{ofZ, ofX, ofY}, make(sides, 3)}
	last   = system{[]terms{{{1, 1, 0, 0}}, less, some}, make(sides, 3)}
	middle = system{[]terms{{{1, 1, 0, 0}}, some, less}, make(sides, 3)}
	ahead  = system{[]terms{some, {{1, 1, 0, 0}}, less}, make(sides, 3)}
)

// goodSystems have nothing wrong with them.
var goodSystems = []system{
	none, still, half, back, little, square, cube, many, alike, double, empty, turn, calm, first, second, swap, mixed, wild,
	hush, cycle, three, chain, ring, last, middle, ahead,
}

// bounded is a system, a box, the Bound, and whether the box holds.
type bounded struct {
	s     system
	b     sides
	bound int
	holds bool
}

// bounds were reckoned apart, in exact numbers.
var bounds = []bounded{
	// Of one unknown: of no Term, and of none that has it; boxes above 0, below 0, with 0 within, of one number.
	{none, sides{{1000, 2000}}, 0, false},
	{none, sides{{-1000, 3000}}, 0, true},
	{none, sides{{-top, top}}, 0, true},
	{still, sides{{-2000, -1000}}, 0, false},
	{still, sides{{-3000, 1000}}, 0, true},
	// With it once: the same over each box, By above 0 or below 0.
	{half, sides{{1000, 2000}}, 500, false},
	{half, sides{{-20, 40}}, 500, true},
	{half, sides{{-top, top}}, 500, true},
	{back, sides{{1500, 1500}}, 500, false},
	{back, sides{{-400, 490}}, 500, true},
	{little, sides{{-1, 1}}, 1, false},
	{little, sides{{-20, 40}}, 1, true},
	{double, sides{{0, 0}}, 2000, true},
	{double, sides{{-333, 7}}, 2000, false},
	// Alike ones are added up ahead of how far that is from 0.
	{alike, sides{{0, 0}}, 500, true},
	{alike, sides{{1000, 2000}}, 500, false},
	// With it twice, three times, and in several Terms: the end that is further from 0 tells.
	{square, sides{{1000, 2000}}, 4000, false},
	{square, sides{{-2000, -1000}}, 4000, false},
	{square, sides{{-1000, 3000}}, 6000, false},
	{square, sides{{-3000, 1000}}, 6000, false},
	{square, sides{{0, 0}}, 0, false},
	{square, sides{{-400, 490}}, 980, false},
	{square, sides{{-800, 900}}, 1800, true},
	{cube, sides{{1500, 1500}}, 2248, false},
	{cube, sides{{-2000, -1000}}, 3996, false},
	{cube, sides{{0, 0}}, 0, true},
	{cube, sides{{-1, 1}}, 1, true},
	{cube, sides{{-400, 490}}, 241, true},
	{cube, sides{{-800, 900}}, 810, true},
	{many, sides{{1000, 2000}}, 2500, false},
	{many, sides{{-2000, -1000}}, 3100, false},
	{many, sides{{-3000, 1000}}, 6300, false},
	{many, sides{{-333, 7}}, 434, false},
	{many, sides{{-400, 490}}, 525, true},
	{many, sides{{-800, 900}}, 946, true},
	// Of two: added up over the unknowns, and the greatest of both, wherever it stands.
	{empty, sides{{-333, 1}, {1, 333}}, 0, false},
	{empty, sides{{-900, 900}, {-80, 80}}, 0, true},
	{turn, sides{{-700, 700}, {-700, 700}}, 1100, false},
	{calm, sides{{1000, 2000}, {3000, 4000}}, 700, false},
	{calm, sides{{-700, 700}, {-700, 700}}, 700, true},
	{first, sides{{0, 0}, {0, 0}}, 900, true},
	{first, sides{{-2000, -1000}, {-7, -5}}, 900, false},
	{second, sides{{-700, 700}, {-700, 700}}, 900, true},
	{second, sides{{-20, 30}, {-300, 400}}, 900, false},
	{swap, sides{{500, 500}, {-3000, 1}}, 1000, false},
	{mixed, sides{{1000, 2000}, {3000, 4000}}, 6000, false},
	{mixed, sides{{-2000, -1000}, {-7, -5}}, 2007, false},
	{mixed, sides{{0, 0}, {0, 0}}, 0, false},
	{mixed, sides{{-700, 700}, {-700, 700}}, 1400, true},
	{mixed, sides{{-20, 30}, {-300, 400}}, 430, true},
	{mixed, sides{{-900, 900}, {-80, 80}}, 980, true},
	{wild, sides{{1000, 2000}, {3000, 4000}}, 5200, false},
	{wild, sides{{-2000, -1000}, {-7, -5}}, 1599, false},
	{wild, sides{{-700, 700}, {-700, 700}}, 700, true},
	{wild, sides{{-20, 30}, {-300, 400}}, 448, true},
	{wild, sides{{500, 500}, {-3000, 1}}, 3100, false},
	// Of three, likewise.
	{hush, sides{{1000, 2000}, {3000, 4000}, {100, 200}}, 0, false},
	{hush, sides{{-10, 10}, {5, 8}, {-10, 0}}, 0, true},
	{cycle, sides{{1000, 2000}, {3000, 4000}, {100, 200}}, 9200, false},
	{cycle, sides{{-1000, 3000}, {-500, 20}, {-7, 7}}, 1525, false},
	{cycle, sides{{-81, 81}, {-80, 80}, {-80, 80}}, 1000, true},
	{three, sides{{-2000, -1000}, {-7, -5}, {-90, -9}}, 2090, false},
	{three, sides{{-1000, 3000}, {-500, 20}, {-7, 7}}, 3007, false},
	{three, sides{{-700, 700}, {-700, 700}, {-700, 700}}, 1400, true},
	{three, sides{{-100, 100}, {-100, 100}, {-100, 100}}, 275, true},
	{three, sides{{5, 6}, {-1, 1}, {5, 9}}, 252, true},
	{three, sides{{-333, 1}, {1, 333}, {500, 500}}, 833, false},
	{chain, sides{{1000, 2000}, {3000, 4000}, {100, 200}}, 670, false},
	{chain, sides{{-81, 81}, {-80, 80}, {-80, 80}}, 500, true},
	{ring, sides{{-700, 700}, {-700, 700}, {-700, 700}}, 1000, true},
	{ring, sides{{5, 6}, {-1, 1}, {5, 9}}, 1000, false},
	{last, sides{{0, 0}, {0, 0}, {0, 0}}, 600, true},
	{last, sides{{-10, 10}, {5, 8}, {-10, 0}}, 600, false},
	{middle, sides{{-100, 100}, {-100, 100}, {-100, 100}}, 600, true},
	{middle, sides{{-333, 1}, {1, 333}, {500, 500}}, 600, false},
	{ahead, sides{{-1000, 3000}, {-500, 20}, {-7, 7}}, 600, true},
	{ahead, sides{{1000, 2000}, {3000, 4000}, {100, 200}}, 600, false},
}

// TestBound asks for Pull as well.
func TestBound(t *testing.T) {
	for _, c := range bounds {
		checkBounded(t, c)
	}
}

// checkBounded asks for the Bound and for Pull, and sees that the box holds just where that is said.
func checkBounded(t *testing.T, c bounded) {
	t.Helper()
	s, b := c.s.system(), c.b.box()
	checkBound(t, s, b, c.bound, api.OK)
	checkPull(t, s, b, c.bound < 1000 && c.holds, api.OK)
	if holds, err := hold.Is(s, b); holds != c.holds || err != nil {
		t.Errorf("Is(%v, %v) = %v, %v; want %v", s, b, holds, err, c.holds)
	}
}

// TestBoundByNone sees that polynomials and Terms that do not hang on an unknown bring nothing, wherever they stand.
func TestBoundByNone(t *testing.T) {
	b := sides{{-700, 700}, {-20, 30}, {1000, 2000}}.box()
	for _, alone := range []terms{nil, {{5, 0, 0, 0}}, {{top, 0, 0, 0}, {-top, 0, 0, 0}}} {
		for at := range 3 {
			s := system{[]terms{alone, alone, alone}, make(sides, 3)}
			checkBound(t, s.system(), b, 0, api.OK)
			s.next[at] = terms{{-4, 0, 1, 0}}
			checkBound(t, s.system(), b, 4, api.OK)
			s.next[at] = append(slices.Clone(s.next[at]), alone...)
			checkBound(t, s.system(), b, 4, api.OK)
		}
	}
}

// TestBoundWhereverItStands asks with each order of the polynomials and of the unknowns: the sums are of one polynomial, and the greatest of them counts.
func TestBoundWhereverItStands(t *testing.T) {
	orders := [][3]int{{0, 1, 2}, {0, 2, 1}, {1, 0, 2}, {1, 2, 0}, {2, 0, 1}, {2, 1, 0}}
	// How much each polynomial changes by each unknown: the greatest number of all is another one's than the first one's, whose sum is the greatest, and by one unknown they come to more.
	all := [3][3]int{{400, -300, 200}, {0, 0, -850}, {-100, 700, 0}}
	for _, rows := range orders {
		for _, places := range orders {
			s := api.System{Push: make([]api.Span, 3)}
			for _, row := range rows {
				var f []api.Term
				for k, by := range all[row] {
					one := api.Term{By: by}
					one.Times[places[k]] = 1
					f = append(f, one)
				}
				s.Next = append(s.Next, f)
			}
			for _, b := range []sides{{{0, 0}, {0, 0}, {0, 0}}, {{-5, 7}, {1, 1000}, {-top, -3}}} {
				checkBound(t, s, b.box(), 900, api.OK)
			}
		}
	}
}

// TestBoundWithoutPushes sees that pushes bring nothing, also where what may be next is beyond what may be with them.
func TestBoundWithoutPushes(t *testing.T) {
	pushes := sides{{0, 0}, {-5, 9}, {77, 77}, {-top, top}, {top, top}, {-top, -top}}.box()
	for i, c := range bounds {
		for from := range pushes {
			s := c.s.system()
			for k := range s.Push {
				s.Push[k] = pushes[(from+k*i)%len(pushes)]
			}
			checkBound(t, s, c.b.box(), c.bound, api.OK)
		}
	}
}

// TestBoundRounded asks where rounding on the way is seen: the bound is never rounded down.
func TestBoundRounded(t *testing.T) {
	for _, c := range []struct {
		s     system
		b     sides
		bound int
	}{
		{system{[]terms{{{1, 2, 0, 0}}}, sides{{0, 0}}}, sides{{1, 1}}, 1},
		{system{[]terms{{{1, 2, 0, 0}}}, sides{{0, 0}}}, sides{{-1, -1}}, 1},
		{system{[]terms{{{-1, 2, 0, 0}, {-1, 2, 0, 0}}}, sides{{0, 0}}}, sides{{1, 1}}, 2},
		{system{[]terms{{{1, 1, 1, 0}}, nil}, make(sides, 2)}, sides{{1, 1}, {-1, -1}}, 2},
		{system{[]terms{nil, nil, {{1, 1, 1, 1}}}, make(sides, 3)}, sides{{1, 1}, {1, 1}, {1, 1}}, 3},
		// By times a side, ahead of the next one.
		{system{[]terms{{{1, 1, 1, 1}}, nil, nil}, make(sides, 3)}, sides{{0, 0}, {1, 1}, {1000000, 1000000}}, 1000},
		{system{[]terms{{{1, 1, 1, 1}}, nil, nil}, make(sides, 3)}, sides{{0, 0}, {1000000, 1000000}, {1, 1}}, 1},
	} {
		checkBound(t, c.s.system(), c.b.box(), c.bound, api.OK)
	}
}

// places are sides of boxes near enough for Point.
var places = sides{{-3000, -1999}, {-7, 0}, {-800, 733}, {0, 99}, {1234, 1234}, {501, 4000}}.box()

// partOf gives the number so many fourths into a span.
func partOf(s api.Span, fourths int) int { return s.Lo + (s.Hi-s.Lo)*fourths/4 }

// distance is the greatest distance of an unknown.
func distance(x, y []int) int {
	most := 0
	for k, n := range x {
		most = max(most, n-y[k], y[k]-n)
	}
	return most
}

// TestNoFurtherApart asks of points of boxes: behind a step with the same pushes two are no further apart than the bound says of how far they were.
func TestNoFurtherApart(t *testing.T) {
	var asked [4]int
	for _, g := range goodSystems {
		for i, b := range lists(places, 3) {
			// As all boxes of three sides with all systems would be many, every third one comes.
			if len(b) == len(g.next) && (len(b) < 3 || i%3 == 0) {
				noFurtherApart(t, g.system(), b, i)
				asked[len(b)]++
			}
		}
	}
	if min(asked[1], asked[2], asked[3]) == 0 {
		t.Errorf("asked of %v boxes", asked)
	}
}

func noFurtherApart(t *testing.T, s api.System, b []api.Span, pick int) {
	t.Helper()
	bound, err := near.Bound(s, b)
	if err != nil {
		t.Fatalf("Bound(%v, %v): %v", s, b, err)
	}
	push := make([]int, len(b))
	for k, span := range s.Push {
		push[k] = partOf(span, (pick+k)%5)
	}
	var points, behindStep [][]int
	for _, parts := range lists([]int{0, 1, 4}, len(b)) {
		if len(parts) != len(b) {
			continue
		}
		x := make([]int, len(b))
		for k, part := range parts {
			x[k] = partOf(b[k], part)
		}
		next, err := step.Point(s, x, push)
		if err != nil {
			t.Fatalf("Point(%v, %v, %v): %v", s, x, push, err)
		}
		points, behindStep = append(points, x), append(behindStep, next)
	}
	for i, x := range points {
		for j, y := range points[:i] {
			// One thousandth for the rounding of both.
			if d := distance(behindStep[i], behindStep[j]); d*1000 > bound*distance(x, y)+1000 {
				t.Errorf("Bound(%v, %v) = %d, and %v and %v are %d apart behind a step", s, b, bound, x, y, d)
			}
			checkApart(t, s, x, y, bound)
		}
	}
}

// checkApart sees that two points are no further apart behind a step than the bound says, without rounding: then nothing need be allowed for it.
func checkApart(t *testing.T, s api.System, x, y []int, bound int) {
	t.Helper()
	most := big.NewRat(int64(bound)*int64(distance(x, y)), 1000)
	for _, f := range s.Next {
		apart := new(big.Rat).Sub(exactly(f, x), exactly(f, y))
		if apart.Abs(apart).Cmp(most) > 0 {
			t.Errorf("of %v %v and %v are %v apart behind a step by %v, and the bound is %d", s, x, y, apart, f, bound)
		}
	}
}

// TestJustAsFarApart asks where two points of a box are just as far apart behind a step as the bound says, so a lesser one would be wrong.
func TestJustAsFarApart(t *testing.T) {
	for _, c := range []struct {
		s    system
		b    sides
		x, y []int
	}{
		{half, sides{{-1000, 3000}}, []int{-1000}, []int{3000}},
		{double, sides{{-5, 5}}, []int{-5}, []int{4}},
		{back, sides{{-1000, 3000}}, []int{0}, []int{2000}},
		{turn, sides{{-1000, 1000}, {0, 2000}}, []int{-1000, 0}, []int{1000, 2000}},
		{first, sides{{0, 1000}, {0, 1000}}, []int{0, 0}, []int{1000, 1000}},
		{second, sides{{0, 1000}, {0, 1000}}, []int{1000, 1000}, []int{0, 0}},
		{ahead, sides{{0, 1000}, {0, 1000}, {0, 1000}}, []int{0, 1000, 0}, []int{1000, 0, 1000}},
		{middle, sides{{0, 1000}, {0, 1000}, {0, 1000}}, []int{1000, 0, 1000}, []int{0, 1000, 0}},
		{last, sides{{0, 1000}, {0, 1000}, {0, 1000}}, []int{0, 1000, 0}, []int{1000, 0, 1000}},
		{ring, sides{{0, 1000}, {0, 1000}, {0, 1000}}, []int{0, 0, 0}, []int{0, 1000, 0}},
	} {
		s := c.s.system()
		push := make([]int, len(s.Push))
		for k, span := range s.Push {
			push[k] = span.Lo
		}
		from, err := step.Point(s, c.x, push)
		to, ill := step.Point(s, c.y, push)
		bound, bad := near.Bound(s, c.b.box())
		if err != nil || ill != nil || bad != nil || distance(from, to)*1000 != bound*distance(c.x, c.y) {
			t.Errorf("Bound(%v, %v) = %d, %v; of %v and %v there are %v, %v, and %v, %v", s, c.b, bound, bad, c.x, c.y, from, err, to, ill)
		}
	}
}

// TestPullAtOne asks with a bound that is just below One, just One and just above it, where the box holds and where it does not.
func TestPullAtOne(t *testing.T) {
	for _, c := range []bounded{
		// Of one unknown, once; By above 0 and below 0.
		{system{[]terms{{{999, 1, 0, 0}}}, sides{{0, 0}}}, sides{{-5, 5}}, 999, true},
		{system{[]terms{{{999, 1, 0, 0}}}, sides{{1, 1}}}, sides{{-5, 5}}, 999, false},
		{system{[]terms{{{1000, 1, 0, 0}}}, sides{{0, 0}}}, sides{{-5, 5}}, 1000, true},
		{system{[]terms{{{1000, 1, 0, 0}}}, sides{{1, 1}}}, sides{{-5, 5}}, 1000, false},
		{system{[]terms{{{1001, 1, 0, 0}}}, sides{{0, 0}}}, sides{{0, 0}}, 1001, true},
		{system{[]terms{{{1001, 1, 0, 0}}}, sides{{0, 0}}}, sides{{0, 1}}, 1001, false},
		{system{[]terms{{{-999, 1, 0, 0}}}, sides{{0, 0}}}, sides{{-5, 5}}, 999, true},
		{system{[]terms{{{-999, 1, 0, 0}}}, sides{{0, 0}}}, sides{{-5, 4}}, 999, false},
		{system{[]terms{{{-1000, 1, 0, 0}}}, sides{{0, 0}}}, sides{{-5, 5}}, 1000, true},
		{system{[]terms{{{-1000, 1, 0, 0}}}, sides{{0, 0}}}, sides{{-5, 4}}, 1000, false},
		{system{[]terms{{{-1001, 1, 0, 0}}}, sides{{0, 0}}}, sides{{0, 0}}, 1001, true},
		{system{[]terms{{{-1001, 1, 0, 0}}}, sides{{0, 0}}}, sides{{1, 1}}, 1001, false},
		// By where the box ends.
		{system{[]terms{{{1000, 2, 0, 0}, {1, 1, 0, 0}}}, sides{{0, 0}}}, sides{{-499, 499}}, 999, true},
		{system{[]terms{{{1000, 2, 0, 0}}}, sides{{0, 0}}}, sides{{-499, 500}}, 1000, true},
		{system{[]terms{{{1000, 2, 0, 0}, {1, 1, 0, 0}}}, sides{{0, 0}}}, sides{{-499, 500}}, 1001, true},
		{system{[]terms{{{1000, 2, 0, 0}, {1, 1, 0, 0}}}, sides{{-300, 0}}}, sides{{-299, 499}}, 999, false},
		{system{[]terms{{{1000, 2, 0, 0}}}, sides{{0, 0}}}, sides{{1, 500}}, 1000, false},
		{system{[]terms{{{1000, 2, 0, 0}, {1, 1, 0, 0}}}, sides{{0, 0}}}, sides{{1, 500}}, 1001, false},
		// Of two and three: by what is added up, wherever it stands.
		{system{[]terms{{{500, 1, 0, 0}, {499, 0, 1, 0}}, nil}, make(sides, 2)}, sides{{-10, 10}, {-10, 10}}, 999, true},
		{system{[]terms{{{500, 1, 0, 0}, {499, 0, 1, 0}}, nil}, make(sides, 2)}, sides{{-9, 9}, {-9, -1}}, 999, false},
		{system{[]terms{{{500, 1, 0, 0}, {-500, 0, 1, 0}}, nil}, make(sides, 2)}, sides{{-10, 10}, {-10, 10}}, 1000, true},
		{system{[]terms{nil, {{500, 1, 0, 0}, {501, 0, 1, 0}}}, make(sides, 2)}, sides{{-6, 6}, {-8, 8}}, 1001, true},
		{system{[]terms{nil, {{500, 1, 0, 0}, {501, 0, 1, 0}}}, make(sides, 2)}, sides{{-9, 9}, {-8, 8}}, 1001, false},
		{system{[]terms{nil, {{333, 1, 0, 0}, {-333, 0, 1, 0}, {333, 0, 0, 1}}, nil}, make(sides, 3)}, sides{{-2, 2}, {-3, 3}, {0, 0}}, 999, true},
		{system{[]terms{nil, nil, {{333, 1, 0, 0}, {-333, 0, 1, 0}, {334, 0, 0, 1}}}, make(sides, 3)}, sides{{0, 0}, {0, 0}, {0, 0}}, 1000, true},
		{system{[]terms{nil, nil, {{333, 1, 0, 0}, {-333, 0, 1, 0}, {334, 0, 0, 1}}}, make(sides, 3)}, sides{{0, 0}, {0, 0}, {1, 1}}, 1000, false},
		// Of several polynomials one alone.
		{system{[]terms{{{999, 1, 0, 0}}, {{1000, 0, 1, 0}}, {{999, 0, 0, 1}}}, make(sides, 3)}, sides{{0, 0}, {-7, 7}, {0, 0}}, 1000, true},
		{system{[]terms{{{999, 1, 0, 0}}, {{-999, 0, 1, 0}}, {{999, 0, 0, 1}}}, make(sides, 3)}, sides{{0, 0}, {-7, 7}, {0, 0}}, 999, true},
	} {
		checkBounded(t, c)
	}
}

// TestPullMeansBoth sees that Pull is true just where the bound is below One and the box holds, and that all four ways come up with boxes of each number of sides.
func TestPullMeansBoth(t *testing.T) {
	var found [4][2][2]int
	near0 := sides{{-800, 733}, {-90, 99}, {0, 99}, {0, 0}, {5, 6}, {1000, 2000}}.box()
	for _, g := range goodSystems {
		for _, b := range lists(near0, 3) {
			if len(b) != len(g.next) {
				continue
			}
			bound, err := near.Bound(g.system(), b)
			holds, ill := hold.Is(g.system(), b)
			if err != nil || ill != nil {
				t.Fatalf("of %v, %v Bound tells %v, and Is %v", g.system(), b, err, ill)
			}
			checkPull(t, g.system(), b, bound < 1000 && holds, api.OK)
			found[len(b)][truth(bound < 1000)][truth(holds)]++
		}
	}
	for sides, ways := range found[1:] {
		if min(ways[0][0], ways[0][1], ways[1][0], ways[1][1]) == 0 {
			t.Errorf("of %d sides there were %v", sides+1, ways)
		}
	}
}

// truth is 1 of what is true.
func truth(is bool) int {
	if is {
		return 1
	}
	return 0
}

// TestPullsTogether goes along two paths with the same pushes out of boxes that Pull: step by step they come closer, but for the rounding, and stay in the box.
func TestPullsTogether(t *testing.T) {
	pulled := 0
	for _, c := range bounds {
		s, b := c.s.system(), c.b.box()
		if is, err := near.Pull(s, b); !is || err != nil || b[0].Hi > far {
			continue
		}
		pulled++
		x, y, push := make([]int, len(b)), make([]int, len(b)), make([][]int, 20)
		for k, side := range b {
			x[k], y[k] = side.Lo, side.Hi
		}
		for at := range push {
			for k, span := range s.Push {
				push[at] = append(push[at], partOf(span, (at+k)%5))
			}
		}
		from, err := flow.Path(s, x, push)
		to, ill := flow.Path(s, y, push)
		if err != nil || ill != nil {
			t.Fatalf("of %v Path tells %v and %v", s, err, ill)
		}
		for at := range push {
			was, is := distance(from[at], to[at]), distance(from[at+1], to[at+1])
			in, err := box.Has(b, from[at+1])
			if is*1000 > c.bound*was+1000 || !in || err != nil {
				t.Errorf("of %v, %v the bound is %d, and from %v and %v paths go to %v and %v", s, b, c.bound, from[at], to[at], from[at+1], to[at+1])
			}
		}
	}
	if pulled < 20 {
		t.Errorf("only %d boxes pull", pulled)
	}
}

// TestFull asks where something of the bound is beyond what may be, and what is next is not.
func TestFull(t *testing.T) {
	for _, c := range []struct {
		s system
		b sides
	}{
		// A By of a Steep.
		{system{[]terms{{{top/2 + 1, 2, 0, 0}}}, make(sides, 1)}, sides{{0, 0}}},
		{system{[]terms{{{-top/2 - 1, 2, 0, 0}}}, make(sides, 1)}, sides{{-1000, 1000}}},
		{system{[]terms{{{333333334, 3, 0, 0}}}, make(sides, 1)}, sides{{0, 0}}},
		{system{[]terms{nil, {{1, 1, 0, 0}, {-top, 1, 2, 0}}}, make(sides, 2)}, sides{{0, 0}, {0, 0}}},
		{system{[]terms{{{top, 0, 0, 3}}, nil, nil}, make(sides, 3)}, sides{{0, 0}, {0, 0}, {0, 0}}},
		// A Range of a Steep: a product, and what its Terms come to on the way.
		{system{[]terms{{{333333333, 3, 0, 0}}}, make(sides, 1)}, sides{{1001, 1001}}},
		{system{[]terms{{{-top / 2, 2, 0, 0}}}, make(sides, 1)}, sides{{0, 1001}}},
		{system{[]terms{{{top, 1, 1, 0}}, nil}, make(sides, 2)}, sides{{0, 0}, {0, 1001}}},
		{system{[]terms{{{top, 1, 0, 0}, {1, 1, 0, 0}}}, make(sides, 1)}, sides{{0, 0}}},
		{system{[]terms{{{-top, 1, 0, 0}, {-1, 1, 0, 0}}}, make(sides, 1)}, sides{{500, 500}}},
		{system{[]terms{{{top, 1, 0, 0}, {1, 1, 0, 0}, {-1, 1, 0, 0}}}, make(sides, 1)}, sides{{0, 0}}},
		// What is added up: by one, by far, of two and of three, of the first polynomial and of a later one.
		{system{[]terms{{{top / 2, 1, 0, 0}, {top/2 + 1, 0, 1, 0}}, nil}, make(sides, 2)}, sides{{0, 0}, {0, 0}}},
		{system{[]terms{nil, {{-top, 1, 0, 0}, {1, 0, 1, 0}}}, make(sides, 2)}, sides{{0, 1}, {0, 1}}},
		{system{[]terms{nil, {{1, 1, 0, 0}, {top, 0, 1, 0}}}, make(sides, 2)}, sides{{0, 0}, {0, 0}}},
		{system{[]terms{{{400000000, 1, 0, 0}, {-300000000, 0, 1, 0}, {300000001, 0, 0, 1}}, nil, nil}, make(sides, 3)}, sides{{0, 0}, {0, 0}, {0, 0}}},
		{system{[]terms{nil, ofX, {{top, 1, 0, 0}, {-top, 0, 1, 0}, {top, 0, 0, 1}}}, make(sides, 3)}, sides{{0, 0}, {0, 0}, {0, 0}}},
		{system{[]terms{{{top, 1, 1, 0}}, nil}, make(sides, 2)}, sides{{-500, 500}, {-501, 0}}},
	} {
		if _, err := step.Of(c.s.system(), c.b.box()); err != nil {
			t.Errorf("Of(%v, %v): %v", c.s.system(), c.b.box(), err)
		}
		checkNot(t, c.s.system(), c.b.box(), api.ErrFull)
	}
}

// TestNotFull asks just ahead of that.
func TestNotFull(t *testing.T) {
	for _, c := range []bounded{
		{system{[]terms{{{top / 2, 2, 0, 0}}}, make(sides, 1)}, sides{{0, 0}}, 0, true},
		{system{[]terms{{{-top / 2, 2, 0, 0}}}, make(sides, 1)}, sides{{-1000, 1000}}, top, false},
		{system{[]terms{{{333333333, 3, 0, 0}}}, make(sides, 1)}, sides{{1000, 1000}}, 999999999, false},
		{system{[]terms{{{top, 1, 1, 0}}, nil}, make(sides, 2)}, sides{{0, 0}, {0, 1000}}, top, true},
		{system{[]terms{{{top - 1, 1, 0, 0}, {1, 1, 0, 0}}}, make(sides, 1)}, sides{{0, 0}}, top, true},
		// Terms in another order, of which none is beyond it on the way.
		{system{[]terms{{{top, 1, 0, 0}, {-1, 1, 0, 0}, {1, 1, 0, 0}}}, make(sides, 1)}, sides{{0, 0}}, top, true},
		{system{[]terms{{{top / 2, 1, 0, 0}, {top / 2, 0, 1, 0}}, nil}, make(sides, 2)}, sides{{0, 0}, {0, 0}}, top, true},
		{system{[]terms{nil, {{-top, 1, 0, 0}}}, make(sides, 2)}, sides{{0, 0}, {0, 0}}, top, true},
		{system{[]terms{{{400000000, 1, 0, 0}, {-300000000, 0, 1, 0}, {300000000, 0, 0, 1}}, nil, nil}, make(sides, 3)}, sides{{0, 0}, {0, 0}, {0, 0}}, top, true},
		{system{[]terms{{{top, 1, 1, 0}}, nil}, make(sides, 2)}, sides{{-500, 500}, {-500, 0}}, top, false},
		// Each polynomial's sum alone is one that may be.
		{system{[]terms{{{top, 1, 0, 0}}, {{top, 0, 1, 0}}, {{top, 0, 0, 1}}}, make(sides, 3)}, sides{{0, 0}, {0, 0}, {0, 0}}, top, true},
	} {
		checkBounded(t, c)
	}
}

// TestFullNext asks where what is next is beyond what may be and the bound is not: Bound tells it, and Pull tells ErrFull, whether the bound is below One or not.
func TestFullNext(t *testing.T) {
	for _, c := range []struct {
		s     system
		b     sides
		bound int
	}{
		// By the Range.
		{system{[]terms{{{top, 0, 0, 0}, {top, 0, 0, 0}}}, sides{{0, 0}}}, sides{{0, 0}}, 0},
		{system{[]terms{{{top, 0, 0, 0}, {1, 0, 0, 0}, {500, 1, 0, 0}}}, sides{{0, 0}}}, sides{{0, 0}}, 500},
		{system{[]terms{{{top, 0, 0, 0}, {999, 1, 0, 0}}}, sides{{0, 0}}}, sides{{-1000, 1000}}, 999},
		{system{[]terms{{{top, 1, 0, 0}}}, sides{{0, 0}}}, sides{{1001, 1001}}, top},
		{system{[]terms{{{0, 2, 0, 0}}}, sides{{0, 0}}}, sides{{0, 1000001}}, 0},
		{system{[]terms{{{1000, 3, 0, 0}}}, sides{{0, 0}}}, sides{{0, 100001}}, 30000603},
		{double, sides{{-top, top}}, 2000},
		{alike, sides{{-top, top}}, 500},
		{system{[]terms{nil, {{400, 1, 0, 0}, {top, 0, 0, 0}, {500, 0, 1, 0}}}, make(sides, 2)}, sides{{1, 1}, {1, 9}}, 900},
		// By the Push.
		{system{[]terms{{{500, 1, 0, 0}}}, sides{{top, top}}}, sides{{2, 2}}, 500},
		{system{[]terms{ofX}, sides{{0, 1}}}, sides{{0, top}}, 1000},
		{system{[]terms{nil, {{top, 0, 0, 0}}, nil}, sides{{0, 0}, {0, 1}, {0, 0}}}, sides{{-1, 1}, {top, top}, {0, 0}}, 0},
	} {
		s, b := c.s.system(), c.b.box()
		if _, err := step.Of(s, b); plain.Told(err) != api.ErrFull {
			t.Errorf("Of(%v, %v): %v", s, b, err)
		}
		checkBound(t, s, b, c.bound, api.OK)
		checkPull(t, s, b, false, api.ErrFull)
	}
}

// wrongSystems are systems with a fault, and which; where several are wrong with one, what is told first.
var wrongSystems = []struct {
	s    system
	told api.Errno
}{
	// No polynomial, and too many, whatever there is of pushes.
	{system{}, api.ErrNone},
	{system{[]terms{}, sides{}}, api.ErrNone},
	{system{nil, sides{{1, 0}, {0, top + 1}}}, api.ErrNone},
	{system{make([]terms, 4), make(sides, 4)}, api.ErrFull},
	{system{make([]terms, 1000), nil}, api.ErrFull},
	{system{[]terms{{{top + 1, 0, 0, 0}}, nil, nil, ofY}, sides{{1, 0}}}, api.ErrFull},
	// Not as many pushes, whatever else is wrong.
	{system{[]terms{ofX}, nil}, api.ErrShape},
	{system{[]terms{ofX}, sides{{0, 0}, {0, 0}}}, api.ErrShape},
	{system{[]terms{ofX, ofY}, sides{{0, top + 1}}}, api.ErrShape},
	{system{[]terms{ofX, make(terms, 7), ofZ}, sides{{0, 0}, {0, 0}}}, api.ErrShape},
	{system{[]terms{ofX, ofY, ofZ}, make(sides, 4)}, api.ErrShape},
	// A polynomial, by each of its faults, wherever it stands.
	{system{[]terms{make(terms, 7)}, sides{{0, 0}}}, api.ErrFull},
	{system{[]terms{nil, nil, make(terms, 1000)}, sides{{0, 0}, {0, 0}, {0, 0}}}, api.ErrFull},
	{system{[]terms{{{top + 1, 0, 0, 0}}}, sides{{0, 0}}}, api.ErrRange},
	{system{[]terms{nil, {{1, 0, 0, 0}, {math.MinInt, 0, 0, 0}}}, sides{{0, 0}, {0, 0}}}, api.ErrRange},
	{system{[]terms{nil, nil, {{math.MaxInt, 0, 0, 0}}}, sides{{0, 0}, {0, 0}, {0, 0}}}, api.ErrRange},
	{system{[]terms{{{1, -1, 0, 0}}}, sides{{0, 0}}}, api.ErrRange},
	{system{[]terms{{{1, 4, 0, 0}}}, sides{{0, 0}}}, api.ErrRange},
	{system{[]terms{nil, {{1, 2, 2, 0}}}, sides{{0, 0}, {0, 0}}}, api.ErrRange},
	{system{[]terms{{{1, math.MaxInt, math.MaxInt, 2}}, nil, nil}, sides{{0, 0}, {0, 0}, {0, 0}}}, api.ErrRange},
	{system{[]terms{nil, nil, {{1, 0, math.MinInt, 0}}}, sides{{0, 0}, {0, 0}, {0, 0}}}, api.ErrRange},
	{system{[]terms{ofY}, sides{{0, 0}}}, api.ErrShape},
	{system{[]terms{ofX, ofZ}, sides{{0, 0}, {0, 0}}}, api.ErrShape},
	// Several polynomials: the first one's is told.
	{system{[]terms{ofZ, make(terms, 7)}, sides{{0, 0}, {0, 0}}}, api.ErrShape},
	{system{[]terms{make(terms, 7), {{top + 1, 0, 0, 0}}}, sides{{0, 0}, {0, 0}}}, api.ErrFull},
	{system{[]terms{{{1, 4, 0, 0}}, make(terms, 7)}, sides{{0, 0}, {0, 0}}}, api.ErrRange},
	// Behind a polynomial of which a By of a Steep, or what is next, would be beyond what may be.
	{system{[]terms{{{top, 3, 0, 0}}, ofZ}, sides{{0, 0}, {0, 0}}}, api.ErrShape},
	{system{[]terms{{{top, 3, 0, 0}}, {{1, 4, 0, 0}}}, sides{{0, 0}, {0, 0}}}, api.ErrRange},
	{system{[]terms{{{top, 0, 0, 0}, {top, 0, 0, 0}}, ofZ}, sides{{top, top}, {0, 0}}}, api.ErrShape},
	// A Push, by each of its faults, wherever it stands, and behind a polynomial's.
	{system{[]terms{ofX}, sides{{1, 0}}}, api.ErrShape},
	{system{[]terms{ofX}, sides{{0, top + 1}}}, api.ErrRange},
	{system{[]terms{ofX}, sides{{math.MaxInt, math.MinInt}}}, api.ErrRange},
	{system{[]terms{ofX, ofY}, sides{{0, 0}, {0, -1}}}, api.ErrShape},
	{system{[]terms{ofX, ofY}, sides{{1, 0}, {math.MinInt, 0}}}, api.ErrShape},
	{system{[]terms{ofX, ofY, ofZ}, sides{{0, 0}, {math.MinInt, 0}, {1, 0}}}, api.ErrRange},
	{system{[]terms{ofX, make(terms, 7)}, sides{{1, 0}, {0, 0}}}, api.ErrFull},
	{system{[]terms{ofY}, sides{{0, top + 1}}}, api.ErrShape},
	{system{[]terms{{{top, 2, 0, 0}}}, sides{{1, 0}}}, api.ErrShape},
	{system{[]terms{{{-top, 2, 0, 0}}}, sides{{0, top + 1}}}, api.ErrRange},
}

// wrongBoxes are boxes with a fault, and which.
var wrongBoxes = []struct {
	b    sides
	told api.Errno
}{
	{nil, api.ErrNone},
	{sides{}, api.ErrNone},
	{sides{{0, 1}, {0, 1}}[:0], api.ErrNone},
	{sides{{0, 1}, {0, 1}, {0, 1}, {0, 1}}, api.ErrFull},
	{sides{{1, 0}, {0, top + 1}, {0, 1}, {0, 1}}, api.ErrFull},
	{make(sides, 1000), api.ErrFull},
	{sides{{1, 0}}, api.ErrShape},
	{sides{{0, top + 1}}, api.ErrRange},
	{sides{{math.MinInt, math.MaxInt}}, api.ErrRange},
	{sides{{math.MaxInt, math.MinInt}}, api.ErrRange},
	{sides{{0, 1}, {1, 0}}, api.ErrShape},
	{sides{{-top - 1, 0}, {1, 0}}, api.ErrRange},
	{sides{{0, 1}, {1, 0}, {0, top + 1}}, api.ErrShape},
	{sides{{0, 1}, {0, 1}, {math.MinInt, 0}}, api.ErrRange},
}

// goodBoxes have nothing wrong with them, of each number of sides; of the last ones most of what is reckoned is beyond what may be.
var goodBoxes = []sides{
	{{-1000, 2000}}, {{-1000, 2000}, {5, 5}}, {{-1000, 2000}, {5, 5}, {-9, -7}},
	{{top, top}}, {{-top, top}, {top, top}}, {{-top, top}, {top, top}, {-top, -top}},
}

// fullSystems have nothing wrong with them, and a By of a Steep that is beyond what may be, whatever the box.
var fullSystems = []system{
	{[]terms{{{top, 2, 0, 0}}}, sides{{0, 0}}},
	{[]terms{nil, {{-top, 1, 2, 0}}}, make(sides, 2)},
	{[]terms{nil, {{top, 0, 3, 0}}, nil}, make(sides, 3)},
}

// TestWrongSystem sees that what is wrong with the system is told, whatever the box.
func TestWrongSystem(t *testing.T) {
	for _, w := range wrongSystems {
		for _, g := range goodBoxes {
			checkNot(t, w.s.system(), g.box(), w.told)
		}
		for _, v := range wrongBoxes {
			checkNot(t, w.s.system(), v.b.box(), w.told)
		}
	}
}

// TestWrongBox sees that what is wrong with the box is told, whether it has as many sides as the system or not, and ahead of what is beyond what may be.
func TestWrongBox(t *testing.T) {
	for _, g := range slices.Concat(goodSystems, fullSystems) {
		for _, w := range wrongBoxes {
			checkNot(t, g.system(), w.b.box(), w.told)
		}
	}
}

// TestShape asks with sides too few and too many: also where it would pull, or be beyond what may be.
func TestShape(t *testing.T) {
	for _, g := range slices.Concat(goodSystems, fullSystems) {
		for _, b := range goodBoxes {
			if len(b) != len(g.next) {
				checkNot(t, g.system(), b.box(), api.ErrShape)
			}
		}
	}
	checkNot(t, none.system(), sides{{-30, 10}, {0, 0}}.box(), api.ErrShape)
	checkNot(t, empty.system(), sides{{-1, 22}}.box(), api.ErrShape)
	checkNot(t, hush.system(), sides{{-5, 5}, {7, 7}}.box(), api.ErrShape)
}

// meantSteep is what the chapter says of Steep, by what chapter 11's own tests hold of Check.
func meantSteep(f []api.Term, many, by int) ([]api.Term, api.Errno) {
	if err := form.Check(f, many); err != nil {
		return nil, plain.Told(err)
	}
	if !slices.Contains([]int{0, 1, 2}[:many], by) {
		return nil, api.ErrRange
	}
	var l []api.Term
	for _, t := range f {
		one := api.Term{Times: t.Times}
		for n := range t.Times[by] {
			one.By, one.Times[by] = one.By+t.By, n
		}
		switch {
		case one.By < -top || one.By > top:
			return nil, api.ErrFull
		case t.Times[by] > 0:
			l = append(l, one)
		}
	}
	return l, api.OK
}

// meantBound is likewise what it says of Bound: unknown by unknown, and only then the greatest.
func meantBound(s api.System, b []api.Span) (int, api.Errno) {
	for _, err := range []error{step.Check(s), box.Check(b)} {
		if err != nil {
			return 0, plain.Told(err)
		}
	}
	if len(b) != len(s.Next) {
		return 0, api.ErrShape
	}
	sums := make([]int, len(b))
	for by := range b {
		for i, f := range s.Next {
			steep, told := meantSteep(f, len(b), by)
			if told != api.OK {
				return 0, told
			}
			over, err := form.Range(steep, b)
			if err != nil {
				return 0, plain.Told(err)
			}
			sums[i] += max(-over.Lo, over.Hi)
		}
	}
	if slices.Max(sums) > top {
		return 0, api.ErrFull
	}
	return slices.Max(sums), api.OK
}

// meantPull is likewise what it says of Pull, by what chapter 15's own tests hold of Is.
func meantPull(s api.System, b []api.Span) (bool, api.Errno) {
	bound, told := meantBound(s, b)
	if told != api.OK {
		return false, told
	}
	holds, err := hold.Is(s, b)
	return bound <= 999 && holds, plain.Told(err)
}

// checkMeantSteep holds Steep against what is meant.
func checkMeantSteep(t *testing.T, f []api.Term, many, by int) {
	t.Helper()
	steep, told := meantSteep(f, many, by)
	checkSteep(t, f, many, by, steep, told)
}

// checkMeant holds both other calls against what is meant.
func checkMeant(t *testing.T, s api.System, b []api.Span) {
	t.Helper()
	bound, told := meantBound(s, b)
	checkBound(t, s, b, bound, told)
	is, told := meantPull(s, b)
	checkPull(t, s, b, is, told)
}

// lists gives all lists of up to some things out of all.
func lists[T any](all []T, upTo int) [][]T {
	made, last := [][]T{nil}, [][]T{nil}
	for range upTo {
		var next [][]T
		for _, l := range last {
			for _, one := range all {
				next = append(next, append(slices.Clone(l), one))
			}
		}
		made, last = append(made, next...), next
	}
	return made
}

// TestSteepAllOfEdges goes over all Terms of numbers and times at which something turns, by themselves and beside another one, by unknowns that are there and others.
func TestSteepAllOfEdges(t *testing.T) {
	bys := []int{math.MinInt, -top - 1, -top, -top/2 - 1, -333333333, -1, 0, 1, 333333334, top / 2, top, top + 1, math.MaxInt}
	numbers := []int{math.MinInt, -1, 0, 1, 2, 3, 4, math.MaxInt}
	turn := 0
	for _, times := range lists([]int{math.MinInt, -1, 0, 1, 2, 3, 4, math.MaxInt}, 3) {
		if len(times) != 3 {
			continue
		}
		for _, many := range numbers {
			for _, by := range numbers {
				// As all of them with all else would be many, others come each time.
				for i := turn % 3; i < len(bys); i += 3 {
					one := api.Term{By: bys[i], Times: [3]int(times)}
					checkMeantSteep(t, []api.Term{one}, many, by)
					checkMeantSteep(t, []api.Term{{By: 5, Times: [3]int{1, 0, 0}}, one, {By: top}}, many, by)
				}
				turn++
			}
		}
	}
}

// edgeForms are polynomials of up to three unknowns, near and far.
var edgeForms = []terms{
	nil, {{7, 0, 0, 0}}, ofX, {{-333, 0, 1, 0}}, {{-333, 1, 0, 1}, {1, 0, 2, 0}}, {{500, 2, 0, 0}, {-far, 0, 0, 0}},
	{{-600, 1, 0, 0}, {399, 0, 1, 0}}, {{top, 0, 1, 0}}, {{top / 2, 2, 0, 0}}, {{top, 3, 0, 0}}, {{1, 0, 0, 0}, {1, 4, 0, 0}},
}

// edgeSystems gives all systems of up to three of these, each with other pushes.
func edgeSystems() []api.System {
	pushes := sides{{0, 0}, {-9, 4}, {-top, top}, {3, 3}, {top - 5, top}, {-top, -top + 5}, {2, 1}}
	var forms [][]api.Term
	for _, l := range edgeForms {
		forms = append(forms, l.form())
	}
	var all []api.System
	for i, next := range lists(forms, 3) {
		s := api.System{Next: next}
		for j := range next {
			// As all pushes with all polynomials would be many, others come each time; the last one is wrong, and comes seldom.
			at := (i*(j+1) + i/7 + j) % len(pushes)
			if at == len(pushes)-1 && i%3 > 0 {
				at = j
			}
			s.Push = append(s.Push, pushes[at:at+1].box()...)
		}
		all = append(all, s)
	}
	return all
}

// TestAllOfEdges goes over all such systems, over boxes whose sides are below 0, above it, across it, of one number, and wrong.
func TestAllOfEdges(t *testing.T) {
	over := lists(sides{{-3000, -1000}, {-5, 7}, {0, 0}, {1733, 1733}, {-top, top}, {1, 0}}.box(), 3)
	for i, s := range edgeSystems() {
		for j, b := range over {
			// Most boxes have other sides than a system, and then they all tell much the same.
			if len(b) == len(s.Next) || (i+j)%5 == 0 {
				checkMeant(t, s, b)
			}
		}
	}
}

// TestAllOfFar goes over all numbers at which something turns, as By, as times, as ends, as sides and as by.
func TestAllOfFar(t *testing.T) {
	edges := []int{math.MinInt, math.MinInt + 1, -top - 1, -top, 1 - top, -far, -1, 0, 1, 2, 3, 4, far, top - 1, top, top + 1, math.MaxInt - 1, math.MaxInt}
	for _, n := range edges {
		for _, m := range edges {
			for _, f := range []terms{nil, {{n, 1, 0, 0}}, {{m, 3, 0, 0}}, {{5, n, m, 0}}, {{5, 0, n, m}}, {{n, m, m, m}}} {
				for many := range 5 {
					checkMeantSteep(t, f.form(), many, n)
					checkMeantSteep(t, f.form(), m, many-1)
				}
				checkMeantSteep(t, f.form(), n, m)
				for _, b := range []sides{{{n, m}}, {{n, n}, {m, m}}, {{-5, 5}, {n, m}, {0, 0}}} {
					s := system{make([]terms, len(b)), make(sides, len(b))}
					s.next[len(b)/2] = f
					checkMeant(t, s.system(), b.box())
					s.push[len(b)/2] = [2]int{n, m}
					checkMeant(t, s.system(), b.box())
					checkMeant(t, s.system(), make([]api.Span, len(b)))
				}
			}
		}
	}
}

// TestShared asks with one list at several places: that makes no difference, and none of them is what is told.
func TestShared(t *testing.T) {
	f := terms{{100, 1, 0, 0}, {-150, 0, 1, 0}}.form()
	spans := sides{{-5, 5}, {1, 2}}.box()
	still := api.System{Next: make([][]api.Term, 2), Push: spans}
	s := api.System{Next: [][]api.Term{f, f}, Push: spans}
	for range 3 {
		checkBound(t, still, spans, 0, api.OK)
		checkPull(t, still, spans, true, api.OK)
		checkBound(t, s, spans, 250, api.OK)
		checkPull(t, s, spans, false, api.OK)
		if bound, err := near.Bound(s, spans); bound != 250 || err != nil {
			t.Errorf("Bound(%v, %v) = %v, %v", s, spans, bound, err)
		}
		if is, err := near.Pull(still, spans); !is || err != nil {
			t.Errorf("Pull(%v, %v) = %v, %v", still, spans, is, err)
		}
		// What Steep tells of a list is not that list, also where they read alike.
		for by, want := range []terms{{{100, 0, 0, 0}}, {{-150, 0, 0, 0}}} {
			steep, err := near.Steep(f, 2, by)
			if !slices.Equal(steep, want.form()) || err != nil {
				t.Errorf("Steep(%v, 2, %d) = %v, %v; want %v", f, by, steep, err, want)
			}
			spoil(steep, wrongTerm)
		}
	}
}

// TestFresh sees that what a call told before is not written over by a later one.
func TestFresh(t *testing.T) {
	f := terms{{1, 3, 0, 0}, {2, 2, 1, 0}, {3, 1, 0, 0}, {4, 0, 0, 0}, {5, 1, 1, 1}}.form()
	steep, err := near.Steep(f, 3, 0)
	want := terms{{3, 2, 0, 0}, {4, 1, 1, 0}, {3, 0, 0, 0}, {5, 0, 1, 1}}.form()
	for range 3 {
		// What was told is handed in as well, as a caller does that asks how that changes.
		for by := range 3 {
			again, _ := near.Steep(steep, 3, by)
			spoil(again, wrongTerm)
			again, _ = near.Steep(f, 3, by)
			spoil(again, wrongTerm)
		}
	}
	if !slices.Equal(steep, want) || err != nil {
		t.Errorf("what was told as %v is now %v, %v", want, steep, err)
	}
	checkSteep(t, steep, 3, 0, terms{{6, 1, 0, 0}, {4, 0, 1, 0}}.form(), api.OK)
}

// TestAgain asks the same again, behind other calls: what is told hangs on what is handed in alone.
func TestAgain(t *testing.T) {
	f := terms{{500, 1, 0, 0}, {-250, 1, 2, 0}}.form()
	s, b := calm.system(), sides{{-700, 700}, {-700, 700}}.box()
	for range 3 {
		checkSteep(t, f, 2, 1, terms{{-500, 1, 1, 0}}.form(), api.OK)
		checkBound(t, s, b, 700, api.OK)
		checkPull(t, s, b, true, api.OK)
		checkSteep(t, f, 2, 2, nil, api.ErrRange)
		checkSteep(t, f, 1, 0, nil, api.ErrShape)
		checkNot(t, s, b[:1], api.ErrShape)
		checkNot(t, s, nil, api.ErrNone)
		checkNot(t, fullSystems[0].system(), b[:1], api.ErrFull)
		checkPull(t, turn.system(), b, false, api.OK)
	}
}

// timesThatMayBe gives how often three unknowns may stand in a Term.
func timesThatMayBe() [][3]int {
	var l [][3]int
	for _, times := range lists([]int{0, 1, 2, 3}, 3) {
		if len(times) == 3 && times[0]+times[1]+times[2] <= 3 {
			l = append(l, [3]int(times))
		}
	}
	return l
}

// madeUp is a system of so many polynomials, out of some numbers and whatever pick picks.
func madeUp(many int, pick uint32, numbers []int) api.System {
	good := timesThatMayBe()
	s := api.System{Next: make([][]api.Term, many), Push: make([]api.Span, many)}
	rest := pick
	for i := range s.Next {
		s.Next[i] = make([]api.Term, rest%8)
		for j := range s.Next[i] {
			rest = rest/3 + pick + uint32(i+j)
			times := good[int(rest)%len(good)]
			// Most Terms would have unknowns that are not there, were they not left out here.
			for k := many; k < len(times) && rest%31 > 0; k++ {
				times[k] = 0
			}
			s.Next[i][j] = api.Term{By: numbers[(i+j)%len(numbers)], Times: times}
		}
		lo, hi := numbers[(i+1)%len(numbers)], numbers[(2*i+2)%len(numbers)]
		s.Push[i] = api.Span{Lo: min(lo, hi), Hi: max(lo, hi)}
	}
	return s
}

// FuzzNear holds systems of up to four unknowns, over any box, and their polynomials by any unknown, against what is meant.
func FuzzNear(f *testing.F) {
	f.Add(uint8(2), uint8(2), uint32(1), 3, 0, -500, 250, 7, -4000, -3998, -3551, -551)
	f.Add(uint8(3), uint8(3), uint32(987654321), 2, 1, 1, -2, 3, -1000, 2000, 5, -7)
	f.Add(uint8(1), uint8(1), uint32(15), 1, 0, 300, -200, 100, 40, -30, 20, 10)
	f.Add(uint8(4), uint8(0), uint32(0), math.MinInt, math.MaxInt, math.MinInt, math.MaxInt, 0, math.MaxInt, math.MinInt, 0, 1)
	f.Fuzz(func(t *testing.T, many, wide uint8, pick uint32, n, by, a, b, c, p, q, r, s int) {
		for _, bound := range []int{math.MaxInt, top + 2, far + 2, 700} {
			// Most ints are none that may be, and most products are beyond it, so they are brought near as well.
			numbers := []int{a % bound, b % bound, c % bound, p % bound, q % bound, r % bound, s % bound}
			made := madeUp(int(many%5), pick, numbers)
			for _, form := range made.Next {
				checkMeantSteep(t, form, n, by)
				checkMeantSteep(t, form, len(made.Next), by%4)
			}
			for _, sides := range []int{int(wide % 5), int(many % 5)} {
				over := make([]api.Span, sides)
				for i := range over {
					lo, hi := numbers[3+i%4], numbers[3+(i+1)%4]
					over[i] = api.Span{Lo: min(lo, hi), Hi: max(lo, hi)}
				}
				checkMeant(t, made, over)
			}
		}
	})
}
