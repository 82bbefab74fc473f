package form_test

import (
	"math"
	"math/big"
	"slices"
	"testing"

	"spanmeadow/api"
	"spanmeadow/form"
	"spanmeadow/plain"
)

// most is the greatest number that may be.
const most = api.MaxNumber

// far is how far from 0 At goes.
const far = 20 * api.One

// behind is what is laid behind a list's length, to tell whether it is read or written.
const behind = 4711

// terms of a polynomial: by, and how often each unknown.
type terms [][4]int

// form of these terms; of none nil stays nil, so that it is asked too.
func (l terms) form() []api.Term {
	if l == nil {
		return nil
	}
	f := make([]api.Term, len(l))
	for i, t := range l {
		f[i] = api.Term{By: t[0], Times: [3]int(t[1:])}
	}
	return f
}

// sides of a box, by their ends.
type sides [][2]int

// box of these sides, likewise.
func (l sides) box() []api.Span {
	if l == nil {
		return nil
	}
	b := make([]api.Span, len(l))
	for i, ends := range l {
		b[i] = api.Span{Lo: ends[0], Hi: ends[1]}
	}
	return b
}

// handed is a list for a call, with memory behind its length; unchanged tells whether all of it is as it was.
func handed[T comparable](l []T, after T) (list []T, unchanged func() bool) {
	if l == nil {
		return nil, func() bool { return true }
	}
	whole := append(slices.Clone(l), after, after)
	before := slices.Clone(whole)
	return whole[:len(l)], func() bool { return slices.Equal(whole, before) }
}

func handedForm(f []api.Term) ([]api.Term, func() bool) {
	return handed(f, api.Term{By: math.MinInt, Times: [3]int{behind, -behind, behind}})
}

func checkCheck(t *testing.T, f []api.Term, many int, told api.Errno) {
	t.Helper()
	list, unchanged := handedForm(f)
	if err := form.Check(list, many); plain.Told(err) != told {
		t.Errorf("Check(%v, %d) = %v; want %v", f, many, err, told)
	}
	if !unchanged() {
		t.Errorf("Check(%v, %d) changed what it was handed", f, many)
	}
}

func checkRange(t *testing.T, f []api.Term, b []api.Span, want api.Span, told api.Errno) {
	t.Helper()
	list, listSame := handedForm(f)
	over, overSame := handed(b, api.Span{Lo: behind, Hi: -behind})
	if got, err := form.Range(list, over); got != want || plain.Told(err) != told {
		t.Errorf("Range(%v, %v) = %v, %v; want %v, %v", f, b, got, err, want, told)
	}
	if !listSame() || !overSame() {
		t.Errorf("Range(%v, %v) changed what it was handed", f, b)
	}
}

func checkAt(t *testing.T, f []api.Term, x []int, want int, told api.Errno) {
	t.Helper()
	list, listSame := handedForm(f)
	at, atSame := handed(x, math.MaxInt)
	if got, err := form.At(list, at); got != want || plain.Told(err) != told {
		t.Errorf("At(%v, %v) = %v, %v; want %v, %v", f, x, got, err, want, told)
	}
	if !listSame() || !atSame() {
		t.Errorf("At(%v, %v) changed what it was handed", f, x)
	}
}

// goodForms have nothing wrong with them, for as many unknowns as they need, or more.
var goodForms = []struct {
	f     terms
	least int
}{
	// Of no Term, one, several, and as many as may be.
	{nil, 1},
	{terms{}, 1},
	{terms{{1, 1, 0, 0}, {1, 1, 0, 0}}[:0], 1},
	{terms{{500, 0, 0, 0}}, 1},
	{terms{{-250, 1, 0, 0}}, 1},
	{terms{{0, 2, 0, 0}}, 1},
	{terms{{1, 3, 0, 0}, {2, 2, 0, 0}, {3, 1, 0, 0}, {4, 0, 0, 0}}, 1},
	{terms{{1, 3, 0, 0}, {2, 2, 0, 0}, {3, 1, 0, 0}, {4, 0, 0, 0}, {5, 1, 0, 0}, {6, 2, 0, 0}}, 1},
	// Two that are alike.
	{terms{{7, 1, 0, 0}, {7, 1, 0, 0}}, 1},
	{terms{{7, 1, 2, 0}, {-7, 1, 2, 0}}, 2},
	// Each unknown 0, 1, 2 and 3 times, and several in one.
	{terms{{1, 0, 1, 0}}, 2},
	{terms{{1, 0, 2, 0}}, 2},
	{terms{{1, 0, 3, 0}}, 2},
	{terms{{1, 1, 1, 0}, {1, 1, 2, 0}, {1, 2, 1, 0}}, 2},
	{terms{{1, 0, 0, 1}}, 3},
	{terms{{1, 0, 0, 2}}, 3},
	{terms{{1, 0, 0, 3}}, 3},
	{terms{{1, 1, 1, 1}}, 3},
	{terms{{1, 1, 0, 2}, {1, 2, 0, 1}, {1, 0, 1, 2}, {1, 0, 2, 1}, {1, 1, 0, 1}, {1, 0, 1, 1}}, 3},
	// As far as may be.
	{terms{{-most, 0, 0, 0}}, 1},
	{terms{{most, 0, 0, 0}}, 1},
	{terms{{-most, 3, 0, 0}, {most, 0, 3, 0}, {-most, 0, 0, 3}, {most, 1, 1, 1}, {most, 0, 0, 0}, {-most, 0, 0, 0}}, 3},
}

// wrongForms are polynomials with a fault for so many unknowns, and which; where several are wrong with one, what is told first.
var wrongForms = []struct {
	f    terms
	many int
	told api.Errno
}{
	// Too many, by one and by far, whatever else is wrong with them.
	{make(terms, 7), 1, api.ErrFull},
	{make(terms, 7), 3, api.ErrFull},
	{make(terms, 1000), 2, api.ErrFull},
	{terms{{most + 1, 0, 0, 0}, {}, {}, {}, {}, {}, {}}, 1, api.ErrFull},
	{terms{{1, -1, 4, 0}, {}, {}, {}, {}, {}, {}}, 2, api.ErrFull},
	{terms{{}, {}, {}, {}, {}, {}, {1, 0, 1, 0}}, 1, api.ErrFull},
	// By, one beyond and far beyond.
	{terms{{most + 1, 0, 0, 0}}, 1, api.ErrRange},
	{terms{{-most - 1, 0, 0, 0}}, 2, api.ErrRange},
	{terms{{math.MaxInt, 1, 1, 1}}, 3, api.ErrRange},
	{terms{{math.MinInt, 3, 0, 0}}, 1, api.ErrRange},
	// A time, of each unknown.
	{terms{{1, -1, 0, 0}}, 1, api.ErrRange},
	{terms{{1, 0, -1, 0}}, 2, api.ErrRange},
	{terms{{1, 0, 0, -1}}, 3, api.ErrRange},
	{terms{{1, 4, 0, 0}}, 1, api.ErrRange},
	{terms{{1, 0, 4, 0}}, 2, api.ErrRange},
	{terms{{1, 0, 0, 4}}, 3, api.ErrRange},
	{terms{{1, math.MinInt, 0, 0}}, 1, api.ErrRange},
	{terms{{1, 0, math.MaxInt, 0}}, 2, api.ErrRange},
	{terms{{1, 0, 0, math.MinInt}}, 3, api.ErrRange},
	// One below 0, and all together not above 3.
	{terms{{1, 3, -1, 1}}, 3, api.ErrRange},
	{terms{{1, -1, 3, 1}}, 3, api.ErrRange},
	{terms{{1, 4, -1, 0}}, 3, api.ErrRange},
	{terms{{1, 4, -4, 3}}, 3, api.ErrRange},
	// Sums that wrap round.
	{terms{{1, math.MaxInt, math.MaxInt, 2}}, 3, api.ErrRange},
	{terms{{1, math.MinInt, math.MinInt, 0}}, 3, api.ErrRange},
	{terms{{1, math.MaxInt, 1, math.MinInt}}, 3, api.ErrRange},
	// All together more than 3.
	{terms{{1, 2, 2, 0}}, 2, api.ErrRange},
	{terms{{1, 3, 1, 0}}, 2, api.ErrRange},
	{terms{{1, 1, 3, 0}}, 2, api.ErrRange},
	{terms{{1, 0, 3, 1}}, 3, api.ErrRange},
	{terms{{1, 0, 2, 2}}, 3, api.ErrRange},
	{terms{{1, 2, 0, 2}}, 3, api.ErrRange},
	{terms{{1, 1, 1, 2}}, 3, api.ErrRange},
	{terms{{1, 2, 1, 1}}, 3, api.ErrRange},
	{terms{{1, 3, 3, 3}}, 3, api.ErrRange},
	// An unknown that is not there.
	{terms{{1, 0, 1, 0}}, 1, api.ErrShape},
	{terms{{1, 0, 0, 1}}, 1, api.ErrShape},
	{terms{{1, 0, 3, 0}}, 1, api.ErrShape},
	{terms{{1, 1, 1, 1}}, 1, api.ErrShape},
	{terms{{1, 0, 0, 1}}, 2, api.ErrShape},
	{terms{{1, 1, 1, 1}}, 2, api.ErrShape},
	{terms{{0, 0, 0, 3}}, 2, api.ErrShape},
	// One Term with several faults.
	{terms{{most + 1, 4, 0, 0}}, 1, api.ErrRange},
	{terms{{most + 1, 0, 1, 0}}, 1, api.ErrRange},
	{terms{{-most - 1, 0, 0, 1}}, 2, api.ErrRange},
	{terms{{1, 0, 4, 0}}, 1, api.ErrRange},
	{terms{{1, 0, -1, 0}}, 1, api.ErrRange},
	{terms{{1, 0, 1, 3}}, 1, api.ErrRange},
	{terms{{1, 3, 0, 1}}, 2, api.ErrRange},
	{terms{{1, 4, 0, 1}}, 2, api.ErrRange},
	{terms{{1, 0, 0, math.MinInt}}, 2, api.ErrRange},
	{terms{{math.MinInt, math.MinInt, math.MaxInt, math.MinInt}}, 1, api.ErrRange},
	// One alone of several, wherever it stands.
	{terms{{most + 1, 0, 0, 0}, {1, 1, 0, 0}, {1, 1, 0, 0}}, 1, api.ErrRange},
	{terms{{1, 1, 0, 0}, {1, 4, 0, 0}, {1, 1, 0, 0}}, 1, api.ErrRange},
	{terms{{1, 1, 0, 0}, {1, 1, 0, 0}, {1, 0, 1, 0}}, 1, api.ErrShape},
	{terms{{}, {}, {}, {}, {}, {0, 0, 0, 1}}, 2, api.ErrShape},
	{terms{{}, {}, {}, {}, {}, {-most - 1, 0, 0, 0}}, 3, api.ErrRange},
	// Several: the first one's is told, whichever it is.
	{terms{{1, 0, 1, 0}, {most + 1, 0, 0, 0}}, 1, api.ErrShape},
	{terms{{1, 0, 1, 0}, {1, 4, 0, 0}}, 1, api.ErrShape},
	{terms{{1, 0, 0, 0}, {1, 0, 0, 2}, {1, -1, 0, 0}}, 2, api.ErrShape},
	{terms{{1, 4, 0, 0}, {1, 0, 1, 0}}, 1, api.ErrRange},
	{terms{{most + 1, 0, 0, 0}, {1, 0, 1, 0}}, 1, api.ErrRange},
	{terms{{1, 2, 2, 0}, {1, 0, 0, 1}}, 2, api.ErrRange},
}

// wrongBoxes are boxes with a fault, and which.
var wrongBoxes = []struct {
	b    sides
	told api.Errno
}{
	{nil, api.ErrNone},
	{sides{}, api.ErrNone},
	{sides{{0, 1}, {0, 1}, {0, 1}, {0, 1}}, api.ErrFull},
	{sides{{1, 0}, {0, most + 1}, {0, 1}, {0, 1}}, api.ErrFull},
	{make(sides, 1000), api.ErrFull},
	{sides{{1, 0}}, api.ErrShape},
	{sides{{0, most + 1}}, api.ErrRange},
	{sides{{-most - 1, 0}}, api.ErrRange},
	{sides{{math.MinInt, math.MaxInt}}, api.ErrRange},
	{sides{{math.MaxInt, math.MinInt}}, api.ErrRange},
	{sides{{0, 1}, {1, 0}}, api.ErrShape},
	{sides{{0, 1}, {0, math.MaxInt}}, api.ErrRange},
	{sides{{0, 1}, {1, 0}, {0, most + 1}}, api.ErrShape},
	{sides{{0, 1}, {math.MinInt, 0}, {1, 0}}, api.ErrRange},
	{sides{{0, 1}, {0, 1}, {1, 0}}, api.ErrShape},
	{sides{{0, 1}, {0, 1}, {-most - 1, 0}}, api.ErrRange},
}

// wrongMany are numbers of unknowns that may not be.
var wrongMany = []int{0, 4, -1, -2, -3, 5, 1000, math.MinInt, math.MaxInt}

func TestCheck(t *testing.T) {
	for _, g := range goodForms {
		for many := g.least; many <= 3; many++ {
			checkCheck(t, g.f.form(), many, api.OK)
		}
		// An unknown of the last place that has times is not there with one fewer.
		for many := 1; many < g.least; many++ {
			checkCheck(t, g.f.form(), many, api.ErrShape)
		}
	}
}

func TestCheckWrong(t *testing.T) {
	for _, w := range wrongForms {
		checkCheck(t, w.f.form(), w.many, w.told)
	}
}

// TestCheckMany sees that what is wrong with the number of unknowns is told ahead of all that is wrong with the Terms.
func TestCheckMany(t *testing.T) {
	for _, many := range wrongMany {
		for _, g := range goodForms {
			checkCheck(t, g.f.form(), many, api.ErrRange)
		}
		for _, w := range wrongForms {
			checkCheck(t, w.f.form(), many, api.ErrRange)
		}
	}
}

// ranged is a polynomial, a box, and its Range over that, or what is told.
type ranged struct {
	f    terms
	b    sides
	want [2]int
	told api.Errno
}

func checkRanges(t *testing.T, list []ranged) {
	t.Helper()
	for _, c := range list {
		checkRange(t, c.f.form(), c.b.box(), api.Span{Lo: c.want[0], Hi: c.want[1]}, c.told)
	}
}

// none is what is told besides an error.
var none = [2]int{}

func TestRange(t *testing.T) {
	checkRanges(t, []ranged{
		// Of no Term it is 0, whatever the box.
		{nil, sides{{-2, 45}}, [2]int{0, 0}, api.OK},
		{terms{}, sides{{-most, most}, {5, 5}}, [2]int{0, 0}, api.OK},
		{nil, sides{{-most, most}, {-most, most}, {-most, most}}, [2]int{0, 0}, api.OK},
		// Without unknowns it is By.
		{terms{{500, 0, 0, 0}}, sides{{-1000, 2000}}, [2]int{500, 500}, api.OK},
		{terms{{-500, 0, 0, 0}}, sides{{-1000, 2000}, {3, 4}}, [2]int{-500, -500}, api.OK},
		{terms{{most, 0, 0, 0}}, sides{{-most, most}, {-most, most}, {-most, most}}, [2]int{most, most}, api.OK},
		// Each unknown 1, 2 and 3 times: above 0, below it, across it.
		{terms{{1000, 1, 0, 0}}, sides{{1000, 2000}}, [2]int{1000, 2000}, api.OK},
		{terms{{1000, 1, 0, 0}}, sides{{-2000, -1000}}, [2]int{-2000, -1000}, api.OK},
		{terms{{-2000, 1, 0, 0}}, sides{{-1000, 3000}}, [2]int{-6000, 2000}, api.OK},
		{terms{{1000, 2, 0, 0}}, sides{{2000, 3000}}, [2]int{4000, 9000}, api.OK},
		{terms{{1000, 2, 0, 0}}, sides{{-3000, -2000}}, [2]int{4000, 9000}, api.OK},
		{terms{{1000, 2, 0, 0}}, sides{{-1000, 2000}}, [2]int{0, 4000}, api.OK},
		{terms{{-1000, 2, 0, 0}}, sides{{-3000, 2000}}, [2]int{-9000, 0}, api.OK},
		{terms{{1000, 3, 0, 0}}, sides{{2000, 3000}}, [2]int{8000, 27000}, api.OK},
		{terms{{500, 3, 0, 0}}, sides{{-3000, -2000}}, [2]int{-13500, -4000}, api.OK},
		{terms{{-1000, 3, 0, 0}}, sides{{-1000, 2000}}, [2]int{-8000, 1000}, api.OK},
		{terms{{1000, 0, 1, 0}}, sides{{7, 9}, {-1000, 2000}}, [2]int{-1000, 2000}, api.OK},
		{terms{{1000, 0, 2, 0}}, sides{{7, 9}, {-1000, 2000}}, [2]int{0, 4000}, api.OK},
		{terms{{1000, 0, 3, 0}}, sides{{7, 9}, {-1000, 2000}}, [2]int{-1000, 8000}, api.OK},
		{terms{{1000, 0, 0, 1}}, sides{{7, 9}, {-8, 8}, {-1000, 2000}}, [2]int{-1000, 2000}, api.OK},
		{terms{{1000, 0, 0, 2}}, sides{{7, 9}, {-8, 8}, {-1000, 2000}}, [2]int{0, 4000}, api.OK},
		{terms{{1000, 0, 0, 3}}, sides{{7, 9}, {-8, 8}, {-1000, 2000}}, [2]int{-1000, 8000}, api.OK},
		// Several unknowns in one Term.
		{terms{{1000, 1, 1, 0}}, sides{{2000, 3000}, {-1000, 4000}}, [2]int{-3000, 12000}, api.OK},
		{terms{{-1000, 1, 1, 0}}, sides{{-3000, -2000}, {-5000, -1000}}, [2]int{-15000, -2000}, api.OK},
		{terms{{2000, 1, 2, 0}}, sides{{-1000, 2000}, {-3000, 1000}}, [2]int{-18000, 36000}, api.OK},
		{terms{{2000, 2, 1, 0}}, sides{{-1000, 2000}, {-3000, 1000}}, [2]int{-24000, 8000}, api.OK},
		{terms{{1000, 1, 1, 1}}, sides{{1000, 2000}, {-3000, -1000}, {-4000, 5000}}, [2]int{-30000, 24000}, api.OK},
		{terms{{1000, 1, 0, 2}}, sides{{-2000, -1000}, {5, 6}, {-4000, 3000}}, [2]int{-32000, 0}, api.OK},
		// With a side of one number, or all of them.
		{terms{{1000, 1, 1, 0}}, sides{{2000, 2000}, {-1000, 4000}}, [2]int{-2000, 8000}, api.OK},
		{terms{{1000, 1, 1, 0}}, sides{{0, 0}, {-1000, 4000}}, [2]int{0, 0}, api.OK},
		{terms{{1000, 1, 1, 1}}, sides{{2000, 2000}, {-3000, -3000}, {1500, 1500}}, [2]int{-9000, -9000}, api.OK},
		// Several Terms; two that are alike are two.
		{terms{{2000, 0, 0, 0}, {-3000, 1, 0, 0}, {1000, 2, 0, 0}}, sides{{-1000, 2000}}, [2]int{-4000, 9000}, api.OK},
		{terms{{1000, 1, 0, 0}, {1000, 1, 0, 0}}, sides{{-1000, 2000}}, [2]int{-2000, 4000}, api.OK},
		{terms{{1000, 1, 0, 0}, {-1000, 1, 0, 0}}, sides{{-1000, 2000}}, [2]int{-3000, 3000}, api.OK},
		{terms{{1000, 1, 1, 0}, {-500, 0, 2, 0}, {7, 0, 0, 0}}, sides{{1000, 2000}, {-2000, 1000}}, [2]int{-5993, 2007}, api.OK},
		{terms{{1000, 1, 0, 0}, {1000, 0, 1, 0}, {1000, 0, 0, 1}}, sides{{1, 2}, {30, 40}, {-500, 600}}, [2]int{-469, 642}, api.OK},
		{terms{{1, 0, 0, 0}, {2, 0, 0, 0}, {3, 0, 0, 0}, {4, 0, 0, 0}, {5, 0, 0, 0}, {6, 0, 0, 0}}, sides{{-9, 9}}, [2]int{21, 21}, api.OK},
		// By 0 adds nothing.
		{terms{{0, 3, 0, 0}, {7, 0, 0, 0}}, sides{{-9000, 9000}}, [2]int{7, 7}, api.OK},
	})
}

// TestRangeRounded asks where rounding on the way is seen: each Term, and each product in it, is rounded outward by itself, from By on, side by side.
func TestRangeRounded(t *testing.T) {
	checkRanges(t, []ranged{
		{terms{{1, 1, 0, 0}}, sides{{1, 1}}, [2]int{0, 1}, api.OK},
		{terms{{-1, 1, 0, 0}}, sides{{1, 1}}, [2]int{-1, 0}, api.OK},
		{terms{{1, 1, 0, 0}, {1, 1, 0, 0}}, sides{{500, 500}}, [2]int{0, 2}, api.OK},
		// By times the first side, ahead of the second one.
		{terms{{1, 1, 1, 0}}, sides{{1, 1}, {1000000, 1000000}}, [2]int{0, 1000}, api.OK},
		{terms{{1, 1, 1, 0}}, sides{{1000000, 1000000}, {1, 1}}, [2]int{1, 1}, api.OK},
		{terms{{1, 1, 1, 1}}, sides{{1000, 1000}, {1, 1}, {1000000, 1000000}}, [2]int{0, 1000}, api.OK},
		{terms{{1, 1, 1, 1}}, sides{{1000, 1000}, {1000000, 1000000}, {1, 1}}, [2]int{1, 1}, api.OK},
		// The power, ahead of By.
		{terms{{1000000, 2, 0, 0}}, sides{{1, 1}}, [2]int{0, 1000}, api.OK},
		{terms{{1000000, 1, 1, 0}}, sides{{1, 1}, {1, 1}}, [2]int{1, 1}, api.OK},
		{terms{{1000000, 3, 0, 0}}, sides{{-1, -1}}, [2]int{-1000, 0}, api.OK},
	})
}

// TestRangeFull asks on either side of where it is beyond what may be.
func TestRangeFull(t *testing.T) {
	checkRanges(t, []ranged{
		// A product, by one end and by the other.
		{terms{{most, 1, 0, 0}}, sides{{-1000, 1000}}, [2]int{-most, most}, api.OK},
		{terms{{most, 1, 0, 0}}, sides{{-1000, 1001}}, none, api.ErrFull},
		{terms{{most, 1, 0, 0}}, sides{{-1001, 1000}}, none, api.ErrFull},
		{terms{{-most, 1, 0, 0}}, sides{{-1001, 1000}}, none, api.ErrFull},
		{terms{{1000, 0, 1, 0}}, sides{{0, 0}, {-most, most}}, [2]int{-most, most}, api.OK},
		{terms{{1001, 0, 1, 0}}, sides{{0, 0}, {0, most}}, none, api.ErrFull},
		{terms{{1000, 1, 1, 1}}, sides{{1000000, 1000000}, {1000000, 1000000}, {1000, 1000}}, [2]int{most, most}, api.OK},
		{terms{{1000, 1, 1, 1}}, sides{{1000000, 1000000}, {1000000, 1000000}, {1000, 1001}}, none, api.ErrFull},
		// A power, also of By 0, and where the side behind it would make it less again.
		{terms{{1000, 2, 0, 0}}, sides{{-1000000, 0}}, [2]int{0, most}, api.OK},
		{terms{{1, 2, 0, 0}}, sides{{-1000001, 0}}, none, api.ErrFull},
		{terms{{0, 2, 0, 0}}, sides{{0, 1000000}}, [2]int{0, 0}, api.OK},
		{terms{{0, 2, 0, 0}}, sides{{0, 1000001}}, none, api.ErrFull},
		{terms{{1000, 3, 0, 0}}, sides{{-100000, 100000}}, [2]int{-most, most}, api.OK},
		{terms{{1, 3, 0, 0}}, sides{{-100001, 0}}, none, api.ErrFull},
		{terms{{0, 0, 0, 3}}, sides{{0, 0}, {0, 0}, {0, 100001}}, none, api.ErrFull},
		{terms{{0, 1, 2, 0}}, sides{{0, 0}, {0, 1000001}}, none, api.ErrFull},
		{terms{{0, 1, 0, 0}}, sides{{-most, most}}, [2]int{0, 0}, api.OK},
		// Beyond it on the way alone, from By on.
		{terms{{most, 1, 1, 0}}, sides{{2000, 2000}, {1, 1}}, none, api.ErrFull},
		{terms{{most, 1, 1, 0}}, sides{{1, 1}, {2000, 2000}}, [2]int{2000000, 2000000}, api.OK},
		{terms{{2, 1, 1, 0}}, sides{{most, most}, {1000, 1000}}, [2]int{2000000, 2000000}, api.OK},
		{terms{{1, 1, 1, 0}}, sides{{most, most}, {most, most}}, none, api.ErrFull},
		{terms{{1, 1, 1, 0}}, sides{{most, most}, {1000000, 1000000}}, [2]int{most, most}, api.OK},
		// A sum, by either end, and on the way alone.
		{terms{{most - 1, 0, 0, 0}, {1, 0, 0, 0}}, sides{{0, 0}}, [2]int{most, most}, api.OK},
		{terms{{most, 0, 0, 0}, {1, 0, 0, 0}}, sides{{0, 0}}, none, api.ErrFull},
		{terms{{-most, 0, 0, 0}, {-1, 0, 0, 0}}, sides{{0, 0}}, none, api.ErrFull},
		{terms{{most, 0, 0, 0}, {1000, 1, 0, 0}}, sides{{-5, 0}}, [2]int{most - 5, most}, api.OK},
		{terms{{most, 0, 0, 0}, {1000, 1, 0, 0}}, sides{{-5, 1}}, none, api.ErrFull},
		{terms{{-most, 0, 0, 0}, {1000, 1, 0, 0}}, sides{{-1, 5}}, none, api.ErrFull},
		{terms{{most, 0, 0, 0}, {1, 0, 0, 0}, {-most, 0, 0, 0}}, sides{{0, 0}}, none, api.ErrFull},
		{terms{{most, 0, 0, 0}, {-most, 0, 0, 0}, {1, 0, 0, 0}}, sides{{0, 0}}, [2]int{1, 1}, api.OK},
		{terms{{most, 0, 0, 0}, {-most, 0, 0, 0}, {most, 0, 0, 0}, {-most, 0, 0, 0}, {most, 0, 0, 0}, {-most, 0, 0, 0}}, sides{{0, 0}}, [2]int{0, 0}, api.OK},
		{terms{{}, {}, {}, {}, {most, 0, 0, 0}, {most, 0, 0, 0}}, sides{{0, 0}}, none, api.ErrFull},
	})
}

// TestRangeWrong sees that what is wrong with the box is told ahead of what is wrong with the polynomial, and that ahead of what is beyond what may be.
func TestRangeWrong(t *testing.T) {
	for _, w := range wrongBoxes {
		for _, g := range goodForms {
			checkRange(t, g.f.form(), w.b.box(), api.Span{}, w.told)
		}
		for _, v := range wrongForms {
			checkRange(t, v.f.form(), w.b.box(), api.Span{}, w.told)
		}
	}
	whole := sides{{-most, most}, {-most, most}, {-most, most}}
	small := sides{{0, 0}, {1, 2}, {-3, 3}}
	for _, w := range wrongForms {
		checkRange(t, w.f.form(), small[:w.many].box(), api.Span{}, w.told)
		checkRange(t, w.f.form(), whole[:w.many].box(), api.Span{}, w.told)
	}
	checkRanges(t, []ranged{
		{terms{{most, 3, 0, 0}, {1, 0, 1, 0}}, whole[:1], none, api.ErrShape},
		{terms{{most, 3, 0, 0}, {most + 1, 0, 0, 0}}, whole[:1], none, api.ErrRange},
		{terms{{most, 3, 0, 0}, {most, 3, 0, 0}}, whole[:1], none, api.ErrFull},
	})
}

// valued is a polynomial, numbers, and what it is At these, or what is told.
type valued struct {
	f    terms
	x    []int
	want int
	told api.Errno
}

func checkValues(t *testing.T, list []valued) {
	t.Helper()
	for _, c := range list {
		checkAt(t, c.f.form(), c.x, c.want, c.told)
	}
}

func TestAt(t *testing.T) {
	checkValues(t, []valued{
		// Of no Term it is 0.
		{nil, []int{45}, 0, api.OK},
		{terms{}, []int{-45, 7}, 0, api.OK},
		{nil, []int{far, -far, 0}, 0, api.OK},
		// Without unknowns it is By.
		{terms{{500, 0, 0, 0}}, []int{7000}, 500, api.OK},
		{terms{{-501, 0, 0, 0}}, []int{7000, -4001}, -501, api.OK},
		{terms{{0, 0, 0, 0}}, []int{1, 2, 3}, 0, api.OK},
		// Each unknown 1, 2 and 3 times: above 0, below it, at it.
		{terms{{1000, 1, 0, 0}}, []int{1234}, 1234, api.OK},
		{terms{{1000, 1, 0, 0}}, []int{-1234}, -1234, api.OK},
		{terms{{1000, 1, 0, 0}}, []int{0}, 0, api.OK},
		{terms{{1000, 2, 0, 0}}, []int{3000}, 9000, api.OK},
		{terms{{1000, 2, 0, 0}}, []int{-3000}, 9000, api.OK},
		{terms{{1000, 2, 0, 0}}, []int{0}, 0, api.OK},
		{terms{{1000, 3, 0, 0}}, []int{3000}, 27000, api.OK},
		{terms{{-2000, 3, 0, 0}}, []int{-3000}, 54000, api.OK},
		{terms{{1000, 0, 1, 0}}, []int{7, -1234}, -1234, api.OK},
		{terms{{1000, 0, 2, 0}}, []int{7, -3000}, 9000, api.OK},
		{terms{{1000, 0, 3, 0}}, []int{7, -3000}, -27000, api.OK},
		{terms{{1000, 0, 0, 1}}, []int{7, 8, -1234}, -1234, api.OK},
		{terms{{1000, 0, 0, 2}}, []int{7, 8, -3000}, 9000, api.OK},
		{terms{{1000, 0, 0, 3}}, []int{7, 8, -3000}, -27000, api.OK},
		// Several unknowns in one Term.
		{terms{{1000, 1, 1, 0}}, []int{2000, -3000}, -6000, api.OK},
		{terms{{1000, 2, 1, 0}}, []int{2000, -3000}, -12000, api.OK},
		{terms{{1000, 1, 2, 0}}, []int{2000, -3000}, 18000, api.OK},
		{terms{{500, 1, 1, 1}}, []int{2000, -3000, 5000}, -15000, api.OK},
		{terms{{500, 1, 0, 2}}, []int{2000, -3000, 5000}, 25000, api.OK},
		{terms{{500, 0, 2, 1}}, []int{2000, -3000, 5000}, 22500, api.OK},
		{terms{{500, 1, 1, 1}}, []int{2000, 0, 5000}, 0, api.OK},
		// Several Terms; two that are alike are two.
		{terms{{2000, 0, 0, 0}, {-3000, 1, 0, 0}, {1000, 2, 0, 0}}, []int{1500}, -250, api.OK},
		{terms{{1000, 1, 0, 0}, {1000, 1, 0, 0}}, []int{1234}, 2468, api.OK},
		{terms{{1000, 1, 1, 0}, {-1000, 1, 1, 0}}, []int{1234, 777}, 0, api.OK},
		{terms{{1000, 1, 0, 0}, {1000, 0, 1, 0}, {1000, 0, 0, 1}}, []int{1, 20, -300}, -279, api.OK},
		{terms{{1, 0, 0, 0}, {2, 0, 0, 0}, {3, 0, 0, 0}, {4, 0, 0, 0}, {5, 0, 0, 0}, {6, 0, 0, 0}}, []int{9}, 21, api.OK},
	})
}

// TestAtRounded asks where it is no whole thousandth: it is rounded down, once, behind all else.
func TestAtRounded(t *testing.T) {
	checkValues(t, []valued{
		{terms{{1, 1, 0, 0}}, []int{999}, 0, api.OK},
		{terms{{1, 1, 0, 0}}, []int{1000}, 1, api.OK},
		{terms{{1, 1, 0, 0}}, []int{1999}, 1, api.OK},
		{terms{{1, 1, 0, 0}}, []int{-1}, -1, api.OK},
		{terms{{1, 1, 0, 0}}, []int{-999}, -1, api.OK},
		{terms{{1, 1, 0, 0}}, []int{-1000}, -1, api.OK},
		{terms{{1, 1, 0, 0}}, []int{-1001}, -2, api.OK},
		{terms{{-1, 1, 0, 0}}, []int{1}, -1, api.OK},
		{terms{{-1, 1, 0, 0}}, []int{-1}, 0, api.OK},
		{terms{{-1, 2, 0, 0}}, []int{1}, -1, api.OK},
		{terms{{1, 3, 0, 0}}, []int{-1}, -1, api.OK},
		{terms{{1, 3, 0, 0}}, []int{1}, 0, api.OK},
		{terms{{-1, 1, 1, 1}}, []int{1, 1, 1}, -1, api.OK},
		// Halves that make a whole.
		{terms{{1, 1, 0, 0}, {1, 1, 0, 0}}, []int{500}, 1, api.OK},
		{terms{{-1, 1, 0, 0}, {-1, 1, 0, 0}}, []int{500}, -1, api.OK},
		{terms{{1, 1, 0, 0}, {-1, 0, 1, 0}}, []int{500, 500}, 0, api.OK},
		{terms{{1, 1, 0, 0}, {1, 2, 0, 0}, {1, 2, 0, 0}}, []int{500}, 1, api.OK},
		{terms{{1, 3, 0, 0}, {1, 3, 0, 0}, {1, 2, 0, 0}, {1, 1, 0, 0}}, []int{500}, 1, api.OK},
		// The least that is not 0, against a whole.
		{terms{{1, 0, 0, 0}, {-1, 3, 0, 0}}, []int{1}, 0, api.OK},
		{terms{{-1, 0, 0, 0}, {1, 3, 0, 0}}, []int{1}, -1, api.OK},
		{terms{{-1, 0, 0, 0}, {-1, 3, 0, 0}}, []int{1}, -2, api.OK},
		{terms{{1, 0, 0, 0}, {-1, 3, 0, 0}, {1, 1, 1, 1}}, []int{1, 1, 1}, 1, api.OK},
		// A product whose rounding on the way would be seen.
		{terms{{1, 1, 1, 0}}, []int{50, 20000}, 1, api.OK},
		{terms{{7, 1, 1, 1}}, []int{1, 20000, 20000}, 2, api.OK},
		{terms{{-7, 1, 1, 1}}, []int{1, 20000, 20000}, -3, api.OK},
	})
}

// TestAtReach asks on either side of how far it goes.
func TestAtReach(t *testing.T) {
	all := terms{{far, 3, 0, 0}, {far, 0, 3, 0}, {far, 0, 0, 3}, {far, 1, 1, 1}, {far, 2, 1, 0}, {far, 0, 1, 2}}
	negative := slices.Clone(all)
	for i := range negative {
		negative[i][0] = -far
	}
	checkValues(t, []valued{
		// Numbers, each by itself.
		{terms{{1000, 1, 0, 0}}, []int{far}, far, api.OK},
		{terms{{1000, 1, 0, 0}}, []int{-far}, -far, api.OK},
		{terms{{1000, 1, 0, 0}}, []int{far + 1}, 0, api.ErrRange},
		{terms{{1000, 1, 0, 0}}, []int{-far - 1}, 0, api.ErrRange},
		{terms{{1000, 1, 0, 0}}, []int{0, far + 1}, 0, api.ErrRange},
		{terms{{1000, 1, 0, 0}}, []int{0, 0, -far - 1}, 0, api.ErrRange},
		{terms{{1000, 1, 0, 0}}, []int{0, far, -far}, 0, api.OK},
		// Also where no Term has them.
		{nil, []int{far + 1}, 0, api.ErrRange},
		{nil, []int{0, 0, -far - 1}, 0, api.ErrRange},
		{terms{{0, 1, 0, 0}}, []int{0, math.MaxInt}, 0, api.ErrRange},
		{terms{{5, 0, 0, 0}}, []int{math.MinInt}, 0, api.ErrRange},
		{terms{{5, 0, 0, 0}}, []int{most}, 0, api.ErrRange},
		// By, wherever it stands.
		{terms{{far, 0, 0, 0}}, []int{0}, far, api.OK},
		{terms{{-far, 0, 0, 0}}, []int{0}, -far, api.OK},
		{terms{{far + 1, 0, 0, 0}}, []int{0}, 0, api.ErrFull},
		{terms{{-far - 1, 0, 0, 0}}, []int{0}, 0, api.ErrFull},
		{terms{{far + 1, 1, 0, 0}}, []int{0}, 0, api.ErrFull},
		{terms{{most, 3, 0, 0}}, []int{0}, 0, api.ErrFull},
		{terms{{-most, 3, 0, 0}}, []int{1}, 0, api.ErrFull},
		{terms{{1, 1, 0, 0}, {far + 1, 0, 0, 0}}, []int{1}, 0, api.ErrFull},
		{terms{{}, {}, {}, {}, {}, {-far - 1, 0, 0, 0}}, []int{1}, 0, api.ErrFull},
		{terms{{far + 1, 0, 0, 0}, {-far - 1, 0, 0, 0}}, []int{1}, 0, api.ErrFull},
		// As much as there can be, which is one that may be.
		{terms{{far, 3, 0, 0}}, []int{far}, 160000000, api.OK},
		{terms{{far, 3, 0, 0}}, []int{-far}, -160000000, api.OK},
		{terms{{-far, 1, 2, 0}}, []int{far, -far}, -160000000, api.OK},
		{all, []int{far, far, far}, 960000000, api.OK},
		{negative, []int{far, far, far}, -960000000, api.OK},
		{all, []int{-far, -far, -far}, -960000000, api.OK},
		{negative, []int{-far, -far, -far}, 960000000, api.OK},
	})
}

// TestAtWrong sees that what is wrong with the polynomial is told ahead of what is wrong with the numbers, and that ahead of a By that is too far.
func TestAtWrong(t *testing.T) {
	for _, w := range wrongForms {
		for _, x := range [][]int{{0, 0, 0}, {1, -2, 3}, {far, -far, far}, {far + 1, 0, math.MinInt}, {math.MaxInt, most, -most}} {
			checkAt(t, w.f.form(), x[:w.many], 0, w.told)
		}
	}
	checkValues(t, []valued{
		{terms{{far + 1, 0, 0, 0}}, []int{far + 1}, 0, api.ErrRange},
		{terms{{most, 1, 0, 0}}, []int{0, math.MinInt}, 0, api.ErrRange},
		{terms{{far + 1, 0, 0, 0}, {1, 0, 1, 0}}, []int{far + 1}, 0, api.ErrShape},
		{terms{{far + 1, 0, 0, 0}, {1, 0, 1, 0}}, []int{0}, 0, api.ErrShape},
		{terms{{far + 1, 0, 0, 0}, {1, 4, 0, 0}}, []int{0}, 0, api.ErrRange},
		{terms{{1, 0, 1, 0}}, []int{far + 1}, 0, api.ErrShape},
		// Several numbers, the first one right or not.
		{terms{{1, 1, 0, 0}}, []int{far + 1, -far - 1}, 0, api.ErrRange},
		{terms{{1, 1, 0, 0}}, []int{0, math.MaxInt, math.MinInt}, 0, api.ErrRange},
	})
}

// TestAtMany asks with no number, and with more than may be.
func TestAtMany(t *testing.T) {
	for _, x := range [][]int{nil, {}, make([]int, 0, 3), {1, 2, 3, 4}, {far + 1, 0, 0, 0}, make([]int, 1000)} {
		for _, g := range goodForms {
			checkAt(t, g.f.form(), x, 0, api.ErrRange)
		}
		for _, w := range wrongForms {
			checkAt(t, w.f.form(), x, 0, api.ErrRange)
		}
	}
}

// meantWrong is what the chapter says is wrong with a polynomial of so many unknowns.
func meantWrong(f []api.Term, many int) api.Errno {
	switch many {
	case 1, 2, 3:
	default:
		return api.ErrRange
	}
	if len(f) >= 7 {
		return api.ErrFull
	}
	for _, t := range f {
		x, y, z := t.Times[0], t.Times[1], t.Times[2]
		switch {
		case t.By > most || t.By < -most:
			return api.ErrRange
		case min(x, y, z) < 0 || max(x, y, z) > 3 || x+y+z > 3:
			return api.ErrRange
		case many < 3 && z > 0 || many < 2 && y > 0:
			return api.ErrShape
		}
	}
	return api.OK
}

// meantWrongBox is what it says is wrong with a box.
func meantWrongBox(b []api.Span) api.Errno {
	switch len(b) {
	case 0:
		return api.ErrNone
	case 1, 2, 3:
	default:
		return api.ErrFull
	}
	for _, s := range b {
		if min(s.Lo, s.Hi) < -most || max(s.Lo, s.Hi) > most {
			return api.ErrRange
		}
		if s.Hi < s.Lo {
			return api.ErrShape
		}
	}
	return api.OK
}

// thousandth is a number of thousandths of thousandths, rounded down to thousandths.
func thousandth(n int) int {
	return (n - (n%1000+1000)%1000) / 1000
}

// meantTimes is one span times another; false if it is beyond what may be.
func meantTimes(a, b api.Span) (api.Span, bool) {
	products := []int{a.Lo * b.Lo, a.Lo * b.Hi, a.Hi * b.Lo, a.Hi * b.Hi}
	s := api.Span{Lo: thousandth(slices.Min(products)), Hi: -thousandth(-slices.Max(products))}
	return s, fits(s)
}

// fits tells whether both ends of a span may be.
func fits(s api.Span) bool {
	return s.Lo >= -most && s.Hi <= most
}

// meantPower is a span with itself, n times, n from 0 to 3; likewise.
func meantPower(s api.Span, n int) (api.Span, bool) {
	switch n {
	case 0:
		return api.Span{Lo: 1000, Hi: 1000}, true
	case 1:
		return s, true
	}
	if n == 2 && s.Lo < 0 && s.Hi > 0 {
		s = api.Span{Hi: max(-s.Lo, s.Hi)}
	}
	// Each end by itself: what lies between them comes to something between, now that a square does not turn there.
	low, lowFits := meantRaised(s.Lo, n)
	high, highFits := meantRaised(s.Hi, n)
	return api.Span{Lo: min(low.Lo, high.Lo), Hi: max(low.Hi, high.Hi)}, lowFits && highFits
}

// meantRaised is one number with itself, n times; likewise.
func meantRaised(x, n int) (api.Span, bool) {
	one := api.Span{Lo: x, Hi: x}
	raised, ok := one, true
	for range n - 1 {
		if raised, ok = meantTimes(raised, one); !ok {
			return api.Span{}, false
		}
	}
	return raised, true
}

// meantRange is what the chapter says of Range, of what is not wrong; likewise.
func meantRange(f []api.Term, b []api.Span) (api.Span, bool) {
	var sum api.Span
	for _, t := range f {
		s := api.Span{Lo: t.By, Hi: t.By}
		for i, side := range b {
			raised, ok := meantPower(side, t.Times[i])
			if !ok {
				return api.Span{}, false
			}
			if s, ok = meantTimes(s, raised); !ok {
				return api.Span{}, false
			}
		}
		sum = api.Span{Lo: sum.Lo + s.Lo, Hi: sum.Hi + s.Hi}
		if !fits(sum) {
			return api.Span{}, false
		}
	}
	return sum, true
}

// exactly is what a polynomial is at numbers, in thousandths, without rounding.
func exactly(f []api.Term, x []int) *big.Rat {
	sum := new(big.Rat)
	for _, t := range f {
		product := big.NewRat(int64(t.By), 1)
		for i, n := range x {
			for range t.Times[i] {
				product.Mul(product, big.NewRat(int64(n), 1000))
			}
		}
		sum.Add(sum, product)
	}
	return sum
}

// meantAt is what the chapter says of At, of a polynomial of which nothing is wrong.
func meantAt(f []api.Term, x []int) (int, api.Errno) {
	for _, n := range x {
		if n > 20000 || n < -20000 {
			return 0, api.ErrRange
		}
	}
	for _, t := range f {
		if t.By > 20000 || t.By < -20000 {
			return 0, api.ErrFull
		}
	}
	is := exactly(f, x)
	// The denominator is above 0, and then Div rounds down.
	n := new(big.Int).Div(is.Num(), is.Denom())
	if n.CmpAbs(big.NewInt(most)) > 0 {
		return 0, api.ErrFull
	}
	return int(n.Int64()), api.OK
}

// checkMeantOver holds Range against what is meant.
func checkMeantOver(t *testing.T, f []api.Term, b []api.Span) {
	t.Helper()
	told := meantWrongBox(b)
	if told == api.OK {
		told = meantWrong(f, len(b))
	}
	if told != api.OK {
		checkRange(t, f, b, api.Span{}, told)
		return
	}
	s, ok := meantRange(f, b)
	if !ok {
		checkRange(t, f, b, api.Span{}, api.ErrFull)
		return
	}
	checkRange(t, f, b, s, api.OK)
}

// checkMeantAt holds At against what is meant.
func checkMeantAt(t *testing.T, f []api.Term, x []int) {
	t.Helper()
	if told := meantWrong(f, len(x)); told != api.OK {
		checkAt(t, f, x, 0, told)
		return
	}
	n, told := meantAt(f, x)
	checkAt(t, f, x, n, told)
}

// allOf gives all lists of so many numbers.
func allOf(numbers []int, many int) [][]int {
	lists := [][]int{nil}
	for range many {
		var longer [][]int
		for _, l := range lists {
			for _, n := range numbers {
				longer = append(longer, append(slices.Clone(l), n))
			}
		}
		lists = longer
	}
	return lists
}

// edgeBys are numbers at which something turns.
var edgeBys = []int{math.MinInt, -most - 1, -most, -far - 1, -far, -1001, -1, 0, 1, 999, 1000, far, far + 1, most, most + 1, math.MaxInt}

// TestCheckAllOfEdges goes over all Terms of such numbers and times, by themselves and behind and ahead of another one.
func TestCheckAllOfEdges(t *testing.T) {
	manys := []int{math.MinInt, -1, 0, 1, 2, 3, 4, math.MaxInt}
	for _, times := range allOf([]int{math.MinInt, -1, 0, 1, 2, 3, 4, math.MaxInt}, 3) {
		for _, by := range edgeBys {
			one := api.Term{By: by, Times: [3]int(times)}
			for _, many := range manys {
				for _, f := range [][]api.Term{
					{one},
					{one, {By: most + 1}},
					{{By: 1, Times: [3]int{0, 1, 0}}, one},
				} {
					checkCheck(t, f, many, meantWrong(f, many))
				}
			}
		}
	}
}

// someBys gives each third one of edgeBys, others each turn, as all of them with all else would be many.
func someBys(turn int) []int {
	var l []int
	for i := turn % 3; i < len(edgeBys); i += 3 {
		l = append(l, edgeBys[i])
	}
	return l
}

// timesThatMayBe gives how often three unknowns may stand in a Term.
func timesThatMayBe() [][3]int {
	var l [][3]int
	for _, times := range allOf([]int{0, 1, 2, 3}, 3) {
		if times[0]+times[1]+times[2] <= 3 {
			l = append(l, [3]int(times))
		}
	}
	return l
}

// TestRangeAllOfEdges goes over all such Terms over boxes whose sides are below 0, above it, across it, of one number, and where something turns.
func TestRangeAllOfEdges(t *testing.T) {
	edges := sides{
		{0, 0}, {1, 1}, {-1, 0}, {-333, 7}, {999, 1001}, {-3001, -1999}, {-100001, 5}, {0, 100000},
		{-1000000, 1000000}, {1000001, 1000001}, {-most, most}, {5, 4}, {0, most + 1}, {math.MinInt, math.MaxInt},
	}.box()
	var at []int
	for i := range edges {
		at = append(at, i)
	}
	turn := 0
	for many := range 4 {
		for _, places := range allOf(at, many) {
			var b []api.Span
			for _, i := range places {
				b = append(b, edges[i])
			}
			for _, times := range timesThatMayBe() {
				for _, by := range someBys(turn) {
					one := api.Term{By: by, Times: times}
					checkMeantOver(t, []api.Term{one}, b)
					checkMeantOver(t, []api.Term{{By: -1000, Times: [3]int{1, 0, 0}}, one}, b)
				}
				turn++
			}
		}
	}
}

// TestAtAllOfEdges goes over all such Terms at numbers below 0, above it, and where something turns.
func TestAtAllOfEdges(t *testing.T) {
	numbers := []int{math.MinInt, -far - 1, -far, -1001, -333, -1, 0, 1, 500, 1000, far, far + 1, math.MaxInt}
	turn := 0
	for many := range 4 {
		for _, x := range allOf(numbers, many) {
			for _, times := range timesThatMayBe() {
				for _, by := range someBys(turn) {
					one := api.Term{By: by, Times: times}
					checkMeantAt(t, []api.Term{one}, x)
					checkMeantAt(t, []api.Term{{By: 1, Times: [3]int{1, 0, 0}}, one}, x)
				}
				turn++
			}
		}
	}
}

// TestIn asks whether what a polynomial is at numbers of a box is in what is told of that box.
func TestIn(t *testing.T) {
	places := sides{{-3000, -1999}, {-7, 0}, {-1500, 1733}, {0, 999}, {1234, 1234}, {2001, 4000}}.box()
	for _, l := range []terms{
		nil,
		{{7, 0, 0, 0}},
		{{1, 1, 0, 0}, {-1, 0, 1, 0}, {3, 0, 0, 1}},
		{{1000, 1, 1, 1}, {-333, 2, 0, 0}},
		{{-777, 1, 2, 0}, {501, 0, 1, 2}, {1, 3, 0, 0}},
		{{250, 0, 0, 0}, {-250, 0, 0, 3}, {999, 1, 0, 1}, {-999, 1, 0, 1}},
		{{1, 3, 0, 0}, {-2, 0, 3, 0}, {3, 0, 0, 3}, {-4, 2, 1, 0}, {5, 0, 2, 1}, {-6, 1, 0, 2}},
	} {
		for _, a := range places {
			for _, b := range places {
				for _, c := range places {
					checkIn(t, l.form(), []api.Span{a, b, c})
				}
			}
		}
	}
}

func checkIn(t *testing.T, f []api.Term, b []api.Span) {
	t.Helper()
	s, err := form.Range(f, b)
	if err != nil {
		t.Errorf("Range(%v, %v): %v", f, b, err)
	}
	lo, hi := big.NewRat(int64(s.Lo), 1), big.NewRat(int64(s.Hi), 1)
	for _, part := range allOf([]int{0, 1, 3}, len(b)) {
		x := make([]int, len(b))
		for i, side := range b {
			x[i] = side.Lo + (side.Hi-side.Lo)*part[i]/3
		}
		if is := exactly(f, x); is.Cmp(lo) < 0 || is.Cmp(hi) > 0 {
			t.Errorf("Range(%v, %v) = %v, and what it is at %v, %v, is not in that", f, b, s, x, is)
		}
		if n, err := form.At(f, x); n < s.Lo || n > s.Hi || err != nil {
			t.Errorf("Range(%v, %v) = %v, and At(%v), %v, %v, is not in that", f, b, s, x, n, err)
		}
	}
}

// TestAgain asks the same again, behind other calls: what is told hangs on what is handed in alone.
func TestAgain(t *testing.T) {
	f := terms{{1000, 1, 1, 0}, {-500, 0, 2, 0}, {7, 0, 0, 0}}.form()
	b := sides{{1000, 2000}, {-2000, 1000}}.box()
	for range 3 {
		checkCheck(t, f, 2, api.OK)
		checkRange(t, f, b, api.Span{Lo: -5993, Hi: 2007}, api.OK)
		checkAt(t, f, []int{1500, -1001}, -1996, api.OK)
		checkCheck(t, f, 1, api.ErrShape)
		checkRange(t, f, nil, api.Span{}, api.ErrNone)
		checkAt(t, f, nil, 0, api.ErrRange)
	}
}

// FuzzOver holds polynomials of up to seven Terms, over any box and at any numbers, against what is meant.
func FuzzOver(f *testing.F) {
	f.Add(uint8(2), uint8(2), uint32(1), -500, 250, 7, -4000, -3998, -3551, -551)
	f.Add(uint8(6), uint8(3), uint32(987654321), 1, -2, 3, -1000, 2000, 5, -7)
	f.Add(uint8(7), uint8(4), uint32(0), math.MinInt, math.MaxInt, 0, math.MaxInt, math.MinInt, 0, 1)
	f.Fuzz(func(t *testing.T, many, wide uint8, pick uint32, a, b, c, p, q, r, s int) {
		good := timesThatMayBe()
		for _, bound := range []int{math.MaxInt, most + 2, far + 2, 3000} {
			// Most ints are none that may be, and most products are beyond it, so they are brought near as well.
			bys, ends := []int{a % bound, b % bound, c % bound}, []int{p % bound, q % bound, r % bound, s % bound}
			form := make([]api.Term, many%8)
			rest := pick
			for i := range form {
				form[i] = api.Term{By: bys[i%3], Times: good[int(rest)%len(good)]}
				rest = rest/uint32(len(good)) + pick
			}
			over, x := make([]api.Span, wide%5), make([]int, wide%5)
			for i := range over {
				low, high := ends[i%4], ends[(i+1)%4]
				over[i], x[i] = api.Span{Lo: min(low, high), Hi: max(low, high)}, low
			}
			checkCheck(t, form, int(wide%5), meantWrong(form, int(wide%5)))
			checkMeantOver(t, form, over)
			checkMeantAt(t, form, x)
			// Unknowns that are not there, and times that may not be, are told as well.
			if len(form) > 0 {
				form[len(form)/2].Times[pick%3] = a % 5
				checkCheck(t, form, s, meantWrong(form, s))
				checkMeantOver(t, form, over)
				checkMeantAt(t, form, x)
			}
		}
	})
}
