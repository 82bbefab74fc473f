package root_test

import (
	"math"
	"slices"
	"testing"

	"spanmeadow/api"
	"spanmeadow/center"
	"spanmeadow/mono"
	"spanmeadow/plain"
	"spanmeadow/poly"
	"spanmeadow/power"
	"spanmeadow/root"
	"spanmeadow/span"
)

// most is the greatest number that may be, and half the half of it.
const (
	most = api.MaxNumber
	half = most / 2
)

// behind is what is laid behind a list's length, to tell whether it is written over.
const behind = 4711

// ends of a span.
type ends [2]int

func (e ends) span() api.Span { return api.Span{Lo: e[0], Hi: e[1]} }

// wrongPolys are polynomials with a fault, and which; where several are wrong with one, what is told first.
var wrongPolys = []struct {
	p    []int
	told api.Errno
}{
	{nil, api.ErrNone},
	{[]int{}, api.ErrNone},
	{[]int{1, 2, 3, 4, 5}[:0], api.ErrNone},
	{[]int{0, 0, 0, 0, 0, 0}, api.ErrFull},
	{[]int{1000, 1000, 1000, 1000, 1000, 1000}, api.ErrFull},
	{make([]int, 1000), api.ErrFull},
	{[]int{most + 1}, api.ErrRange},
	{[]int{-most - 1}, api.ErrRange},
	{[]int{math.MinInt}, api.ErrRange},
	{[]int{math.MaxInt}, api.ErrRange},
	{[]int{most + 1, 0, 0, 0, 0}, api.ErrRange},
	{[]int{0, -most - 1, 0, 0, 0}, api.ErrRange},
	{[]int{0, 0, math.MaxInt, 0, 0}, api.ErrRange},
	{[]int{0, 0, 0, math.MinInt, 0}, api.ErrRange},
	{[]int{0, 0, 0, 0, most + 1}, api.ErrRange},
	// Too many, and one that may not be: the many are told first.
	{[]int{most + 1, 0, 0, 0, 0, 0}, api.ErrFull},
	{[]int{0, 0, 0, 0, 0, math.MinInt}, api.ErrFull},
	// A range would be beyond what may be as well.
	{[]int{most + 1, 0, most}, api.ErrRange},
}

// wrongSpans are spans with a fault, and which.
var wrongSpans = []struct {
	x    ends
	told api.Errno
}{
	{ends{1, 0}, api.ErrShape},
	{ends{0, -1}, api.ErrShape},
	{ends{most, -most}, api.ErrShape},
	{ends{-most + 1, -most}, api.ErrShape},
	{ends{0, most + 1}, api.ErrRange},
	{ends{-most - 1, 0}, api.ErrRange},
	{ends{most + 1, 0}, api.ErrRange},
	{ends{0, -most - 1}, api.ErrRange},
	{ends{-most - 1, most + 1}, api.ErrRange},
	{ends{math.MinInt, math.MaxInt}, api.ErrRange},
	{ends{math.MaxInt, math.MinInt}, api.ErrRange},
	{ends{math.MinInt, math.MinInt}, api.ErrRange},
	{ends{math.MaxInt, math.MaxInt}, api.ErrRange},
}

// wrongLeasts are no widths that may be the least.
var wrongLeasts = []int{0, -1, -2, -1000, -most, -most - 1, most + 1, most + 2, math.MaxInt32 + 1, math.MinInt, math.MaxInt, 1<<32 + 1}

// handed is a list for a call, with memory behind its length; unchanged tells whether all of it is as it was.
func handed(p []int) (list []int, unchanged func() bool) {
	// Without memory nil stays nil, so that it is asked too.
	if p == nil {
		return nil, func() bool { return true }
	}
	whole := append(slices.Clone(p), behind, behind)
	before := slices.Clone(whole)
	return whole[:len(p)], func() bool { return slices.Equal(whole, before) }
}

func checkMay(t *testing.T, p []int, x api.Span, want bool, told api.Errno) {
	t.Helper()
	list, unchanged := handed(p)
	got, err := root.May(list, x)
	if got != want || plain.Told(err) != told {
		t.Errorf("May(%v, %v) = %v, %v; want %v, %v", p, x, got, err, want, told)
	}
	if !unchanged() {
		t.Errorf("May(%v, %v) changed what it was handed", p, x)
	}
}

func checkSure(t *testing.T, p []int, x api.Span, want bool, told api.Errno) {
	t.Helper()
	list, unchanged := handed(p)
	got, err := root.Sure(list, x)
	if got != want || plain.Told(err) != told {
		t.Errorf("Sure(%v, %v) = %v, %v; want %v, %v", p, x, got, err, want, told)
	}
	if !unchanged() {
		t.Errorf("Sure(%v, %v) changed what it was handed", p, x)
	}
}

func checkFind(t *testing.T, p []int, x api.Span, least int, want []api.Span, told api.Errno) {
	t.Helper()
	list, unchanged := handed(p)
	got, err := root.Find(list, x, least)
	if !slices.Equal(got, want) || plain.Told(err) != told {
		t.Errorf("Find(%v, %v, %d) = %v, %v; want %v, %v", p, x, least, got, err, want, told)
	}
	if !unchanged() {
		t.Errorf("Find(%v, %v, %d) changed what it was handed", p, x, least)
	}
}

// asked is a polynomial over a span, and what May and Sure tell of it.
type asked struct {
	p         []int
	x         ends
	may, sure bool
}

func checkAsked(t *testing.T, all []asked) {
	t.Helper()
	for _, a := range all {
		checkMay(t, a.p, a.x.span(), a.may, api.OK)
		checkSure(t, a.p, a.x.span(), a.sure, api.OK)
	}
}

// TestOver asks polynomials of one to five factors over spans above 0, below it, across it, of one number, and of some numbers near 0.
func TestOver(t *testing.T) {
	spans := [...]ends{{2000, 3000}, {-3000, -2000}, {-1500, 2500}, {0, 1000}, {1000, 2000}, {-1000, 0}, {1000, 1000}, {-1, 1}}
	for _, r := range []struct {
		p         []int
		may, sure [len(spans)]bool
	}{
		{[]int{5000},
			[...]bool{false, false, false, false, false, false, false, false},
			[...]bool{false, false, false, false, false, false, false, false}},
		{[]int{-7},
			[...]bool{false, false, false, false, false, false, false, false},
			[...]bool{false, false, false, false, false, false, false, false}},
		{[]int{0},
			[...]bool{true, true, true, true, true, true, true, true},
			[...]bool{false, false, false, false, false, false, false, false}},
		{[]int{1000, 2000},
			[...]bool{false, false, true, false, false, true, false, false},
			[...]bool{false, false, true, false, false, true, false, false}},
		{[]int{-1000, -1000},
			[...]bool{false, false, true, false, false, true, false, false},
			[...]bool{false, false, true, false, false, true, false, false}},
		{[]int{0, 1000},
			[...]bool{false, false, true, true, false, true, false, true},
			[...]bool{false, false, true, true, false, true, false, true}},
		{[]int{-1500, 1000},
			[...]bool{false, false, true, false, true, false, false, false},
			[...]bool{false, false, true, false, true, false, false, false}},
		{[]int{2500, -1000},
			[...]bool{true, false, true, false, false, false, false, false},
			[...]bool{true, false, true, false, false, false, false, false}},
		{[]int{2000, -3000, 1000},
			[...]bool{true, false, true, true, true, false, true, false},
			[...]bool{true, false, false, true, false, false, true, false}},
		{[]int{-2000, 3000, -1000},
			[...]bool{true, false, true, true, true, false, true, false},
			[...]bool{true, false, false, true, false, false, true, false}},
		{[]int{1000, -2000, 1000},
			[...]bool{false, false, true, true, true, false, true, false},
			[...]bool{false, false, false, false, false, false, false, false}},
		{[]int{2000, 0, 1000},
			[...]bool{false, false, false, false, false, false, false, false},
			[...]bool{false, false, false, false, false, false, false, false}},
		{[]int{-2250, 0, 1000},
			[...]bool{false, false, true, false, true, false, false, false},
			[...]bool{false, false, false, false, true, false, false, false}},
		{[]int{0, 2000, -3000, 1000},
			[...]bool{true, false, true, true, true, true, true, true},
			[...]bool{true, false, false, false, false, true, true, true}},
		{[]int{0, 0, 2000, 1000},
			[...]bool{false, true, true, true, false, true, false, true},
			[...]bool{false, true, false, false, false, false, false, false}},
		{[]int{-6000, 11000, -6000, 1000},
			[...]bool{true, false, true, true, true, false, true, false},
			[...]bool{false, false, false, false, false, false, true, false}},
		{[]int{1000, 3000, 3000, 1000},
			[...]bool{false, false, true, false, false, true, false, false},
			[...]bool{false, false, false, false, false, false, false, false}},
		{[]int{-8000, 0, 0, 1000},
			[...]bool{true, false, true, false, true, false, false, false},
			[...]bool{true, false, false, false, true, false, false, false}},
		{[]int{4000, 0, -5000, 0, 1000},
			[...]bool{true, true, true, true, true, true, true, false},
			[...]bool{true, true, false, false, false, false, true, false}},
		{[]int{1000, 0, -2000, 0, 1000},
			[...]bool{false, false, true, true, true, true, true, false},
			[...]bool{false, false, false, false, false, false, false, false}},
		{[]int{0, -6000, 11000, -6000, 1000},
			[...]bool{true, false, true, true, true, true, true, true},
			[...]bool{false, false, false, false, false, true, true, true}},
		{[]int{777, -333, 0, 1111, -999},
			[...]bool{false, false, true, false, true, true, false, false},
			[...]bool{false, false, false, false, true, false, false, false}},
		{[]int{-1000, -90000, 3000, -2000, 1000},
			[...]bool{false, false, true, false, false, true, false, false},
			[...]bool{false, false, true, false, false, true, false, false}},
	} {
		for i, x := range spans {
			checkAsked(t, []asked{{r.p, x, r.may[i], r.sure[i]}})
		}
	}
}

// TestJust asks where the range begins, or ends, just at 0, and with a thousandth more, and less, at each number.
func TestJust(t *testing.T) {
	for _, r := range []struct {
		p []int
		x ends
		// out is what is to be added so that 0 is just out of the range.
		out int
	}{
		{[]int{1800, -1500, 1700}, ends{-2200, 1200}, 1},
		{[]int{2000, -1000, 2400, 300}, ends{-1100, 1600}, 1},
		{[]int{0, -200, 1100, -2300, -1100}, ends{-2500, 0}, 1},
		{[]int{0, 2800, 1700}, ends{0, 2100}, 1},
		{[]int{0, 2500, 800, 1100, 2800}, ends{0, 1100}, 1},
		{[]int{1200, -600, 0}, ends{200, 2000}, 1},
		{[]int{0, -2200, 200, -2800}, ends{-800, 0}, 1},
		{[]int{0, 0, 1000}, ends{-1000, 1000}, 1},
		{[]int{0}, ends{-5, 5}, 1},
		{[]int{0, 1000}, ends{0, most - 1}, 1},
		{[]int{-200, -100, -1600}, ends{-2000, 2000}, -1},
		{[]int{-1600, -500, 1400, -2500}, ends{300, 2000}, -1},
		{[]int{-2900, 1200, 200, -100, 1600}, ends{-700, 1000}, -1},
		{[]int{-400, 1600, -1200}, ends{1000, 1600}, -1},
		{[]int{-400, 2300, -1500, -400}, ends{1000, 2800}, -1},
		{[]int{1800, 1100, 100}, ends{-2300, -2000}, -1},
		{[]int{0, 0, -2500, 2400, -1100}, ends{-2200, 0}, -1},
		{[]int{0, 0, -1000}, ends{-1000, 1000}, -1},
		{[]int{0}, ends{-5, 5}, -1},
		{[]int{0, -1000}, ends{0, most - 1}, -1},
	} {
		over, _ := mono.Range(r.p, r.x.span())
		if r.out > 0 && over.Lo != 0 || r.out < 0 && over.Hi != 0 {
			t.Errorf("%v over %v is %v, which is not just at 0", r.p, r.x, over)
		}
		out, in := slices.Clone(r.p), slices.Clone(r.p)
		out[0] += r.out
		in[0] -= r.out
		checkMay(t, r.p, r.x.span(), true, api.OK)
		checkMay(t, out, r.x.span(), false, api.OK)
		// The range of one number alone goes out at its other end.
		checkMay(t, in, r.x.span(), over.Lo < over.Hi, api.OK)
	}
}

// TestNought asks of polynomials that are 0 everywhere: it may be anywhere, and nowhere is one surely the only one.
func TestNought(t *testing.T) {
	for count := 1; count <= api.MaxDegree+1; count++ {
		for _, x := range []ends{{0, 0}, {7, 7}, {-1, 1}, {1000, 3000}, {-3000, -1000}, {-31622, 31622}} {
			checkAsked(t, []asked{{make([]int, count), x, true, false}})
			checkFind(t, make([]int, count), x.span(), most, []api.Span{x.span()}, api.OK)
		}
	}
}

// TestSlope asks where the slope has no 0 in it, begins at 0, ends at 0, and has 0 between; where it begins or ends there, the way is not 0.
func TestSlope(t *testing.T) {
	checkAsked(t, []asked{
		// It begins at 0, and just above it.
		{[]int{-1000, 0, 1000}, ends{0, 2000}, true, false},
		{[]int{-1000, 0, 1000}, ends{1, 2000}, true, true},
		{[]int{0, 0, 0, 1000}, ends{0, 1000}, true, false},
		{[]int{1000, 0, -2000}, ends{-2000, 0}, true, false},
		{[]int{1000, 0, -2000}, ends{-2000, -1}, true, true},
		{[]int{0, 0, 1000}, ends{0, 0}, true, false},
		{[]int{0, 0, 1000}, ends{0, 1}, true, false},
		{[]int{-1000, 0, 0, 0, 1000}, ends{0, 1500}, true, false},
		{[]int{-1000, 0, 0, 0, 1000}, ends{100, 1500}, true, true},
		// It ends at 0, and just below it.
		{[]int{-1000, 0, 1000}, ends{-2000, 0}, true, false},
		{[]int{-1000, 0, 1000}, ends{-2000, -1}, true, true},
		{[]int{1000, 0, -1000}, ends{0, 2000}, true, false},
		{[]int{1000, 0, -1000}, ends{1, 2000}, true, true},
		{[]int{0, 0, 0, -1000}, ends{-1000, 0}, true, false},
		{[]int{2000, -3000, 1000}, ends{0, 1500}, true, false},
		{[]int{2000, -3000, 1000}, ends{0, 1499}, true, true},
		// It has 0 between.
		{[]int{-1000, 0, 1000}, ends{-1, 2000}, true, false},
		{[]int{-1000, 0, 1000}, ends{-2000, 1}, true, false},
		{[]int{0, 0, 0, 1000}, ends{-1000, 1000}, true, false},
		{[]int{0, 0, 0, -1000}, ends{-1000, 1000}, true, false},
		{[]int{2000, -3000, 1000}, ends{500, 1501}, true, false},
		{[]int{0, 3000, -3000, 1000}, ends{-1000, 2000}, true, false},
		{[]int{0, 3000, -3000, 1000}, ends{0, 1000}, true, false},
		// It is 0, or may be, by rounding alone.
		{[]int{0, 0, 1}, ends{0, 499}, true, false},
		{[]int{0, 0, 1}, ends{0, 500}, true, false},
		{[]int{-1, 0, 1}, ends{1, 1500}, true, false},
		{[]int{-1, 0, 1}, ends{500, 1500}, true, true},
		{[]int{-1, 0, -1}, ends{-1500, -499}, false, false},
		{[]int{1, 0, -1}, ends{-1500, -500}, true, true},
		// It is one thousandth, above 0 and below it.
		{[]int{0, 1}, ends{-5000, 5000}, true, true},
		{[]int{0, -1}, ends{-5000, 5000}, true, true},
		{[]int{0, 1, 0, 0, 0}, ends{-5000, 5000}, true, true},
		{[]int{0, -1, 0, 0, 0}, ends{-5000, 5000}, true, true},
	})
}

// TestEnds asks where the slope has no 0 in it, so that what it is at the ends tells all.
func TestEnds(t *testing.T) {
	checkAsked(t, []asked{
		// Far from 0 at both ends, on both sides, and on one.
		{[]int{-1000, 1000}, ends{0, 3000}, true, true},
		{[]int{1000, -1000}, ends{0, 3000}, true, true},
		{[]int{-1000, 1000}, ends{2000, 3000}, false, false},
		{[]int{-1000, 1000}, ends{-3000, 0}, false, false},
		{[]int{1000, -1000}, ends{2000, 3000}, false, false},
		{[]int{1000, -1000}, ends{-3000, 0}, false, false},
		// Just 0 at one end, and one thousandth to either side of that.
		{[]int{-1000, 1000}, ends{1000, 2000}, true, true},
		{[]int{-1000, 1000}, ends{999, 2000}, true, true},
		{[]int{-1000, 1000}, ends{1001, 2000}, false, false},
		{[]int{-1000, 1000}, ends{0, 1000}, true, true},
		{[]int{-1000, 1000}, ends{0, 999}, false, false},
		{[]int{-1000, 1000}, ends{0, 1001}, true, true},
		{[]int{1000, -1000}, ends{1000, 2000}, true, true},
		{[]int{1000, -1000}, ends{999, 2000}, true, true},
		{[]int{1000, -1000}, ends{1001, 2000}, false, false},
		{[]int{1000, -1000}, ends{0, 1000}, true, true},
		{[]int{1000, -1000}, ends{0, 999}, false, false},
		{[]int{1000, -1000}, ends{0, 1001}, true, true},
		{[]int{2000, -3000, 1000}, ends{1600, 2000}, true, true},
		{[]int{2000, -3000, 1000}, ends{2000, 3000}, true, true},
		{[]int{2000, -3000, 1000}, ends{500, 1000}, true, true},
		{[]int{2000, -3000, 1000}, ends{1000, 1400}, true, true},
		{[]int{3, 2, 2, 3}, ends{-1000, -992}, true, true},
		{[]int{-2, 1, 3, 1, -3}, ends{1000, 2790}, true, true},
		{[]int{0, -4, 5, 7, -10}, ends{-8, 0}, true, true},
		// From 0 on at one end, up to 0 at the other one.
		{[]int{0, 1}, ends{-22, 1}, true, true},
		{[]int{0, -1}, ends{-215, 35}, true, true},
		{[]int{-2, 28, -12}, ends{66, 80}, true, true},
		{[]int{1, -2, -1}, ends{102, 621}, true, true},
		{[]int{-2, 1, 0, 0}, ends{1289, 2065}, true, true},
		{[]int{-4, 7, 5, -8}, ends{866, 1177}, true, true},
		{[]int{2, -1, 1, -1, -1}, ends{-2482, -1659}, true, true},
		{[]int{83, -26, 67, -34, -51}, ends{1147, 1158}, true, true},
		// From 0 on, or up to 0, at one end, and beyond 0 at the other one.
		{[]int{0, 6}, ends{-30, 2003}, true, true},
		{[]int{0, 1}, ends{-2778, 973}, true, true},
		{[]int{6, -8}, ends{-1642, 774}, true, true},
		{[]int{-1, -1}, ends{-1304, 1057}, true, true},
		{[]int{0, 9, 9, 3, -3}, ends{-97, 442}, true, true},
		{[]int{9, 2, -10, 8}, ends{-2065, -682}, true, true},
		{[]int{6, 5, -5, -6}, ends{489, 1003}, true, true},
		{[]int{1, -1, -10, 2}, ends{125, 1100}, true, true},
		// From 0 on at both ends, up to 0 at both.
		{[]int{2, 1}, ends{-1810, -1147}, true, false},
		{[]int{2, -2}, ends{769, 782}, true, false},
		{[]int{0, 0, 10, 3, -8}, ends{-764, -761}, true, false},
		{[]int{-2, 3}, ends{436, 436}, true, false},
		{[]int{-2, -10}, ends{-174, -153}, true, false},
		{[]int{0, -2, -1, 1, 2}, ends{752, 765}, true, false},
		// On both sides of 0 at one end, or at both: then it is not sure.
		{[]int{-1, 1, 1}, ends{641, 1513}, true, false},
		{[]int{-2, -1, 2}, ends{842, 1430}, true, false},
		{[]int{2, 10, -6}, ends{1956, 2946}, true, false},
		{[]int{1, 3, 2}, ends{-1899, -1170}, true, false},
		{[]int{-1, 2, -3, 0, 2}, ends{997, 1000}, true, false},
		{[]int{-8, 10, 9, -1, -5}, ends{529, 535}, true, false},
		{[]int{-1, -1, 3, -1}, ends{938, 953}, true, false},
		{[]int{-2, -3, -1}, ends{-981, -978}, true, false},
	})
}

func TestOneNumber(t *testing.T) {
	checkAsked(t, []asked{
		// Just 0 there.
		{[]int{-1000, 1000}, ends{1000, 1000}, true, true},
		{[]int{1000, -1000}, ends{1000, 1000}, true, true},
		{[]int{0, 1}, ends{0, 0}, true, true},
		{[]int{2000, -3000, 1000}, ends{2000, 2000}, true, true},
		{[]int{-8000, 0, 0, 1000}, ends{2000, 2000}, true, true},
		{[]int{0, -6000, 11000, -6000, 1000}, ends{3000, 3000}, true, true},
		{[]int{-3, 10, 0}, ends{300, 300}, true, true},
		{[]int{most, -most}, ends{1000, 1000}, true, true},
		// Just 0, with no slope.
		{[]int{1000, -2000, 1000}, ends{1000, 1000}, true, false},
		{[]int{0, 0, 1000}, ends{0, 0}, true, false},
		{[]int{1000, 0, -2000, 0, 1000}, ends{-1000, -1000}, true, false},
		{[]int{0}, ends{7, 7}, true, false},
		// A thousandth beside it.
		{[]int{-1000, 1000}, ends{999, 999}, false, false},
		{[]int{-1000, 1000}, ends{1001, 1001}, false, false},
		{[]int{1000, -1000}, ends{999, 999}, false, false},
		{[]int{1000, -1000}, ends{1001, 1001}, false, false},
		// Rounded to 0 on one side, or on both.
		{[]int{0, 1}, ends{1, 1}, true, false},
		{[]int{0, 1}, ends{-1, -1}, true, false},
		{[]int{0, -1}, ends{1, 1}, true, false},
		{[]int{0, -1}, ends{-1, -1}, true, false},
		{[]int{-2, 3}, ends{436, 436}, true, false},
		{[]int{-2, -3, -1}, ends{-981, -981}, true, false},
		// Far from it.
		{[]int{5}, ends{0, 0}, false, false},
		{[]int{2000, -3000, 1000}, ends{1500, 1500}, false, false},
		{[]int{1000, 1000, 1000, 1000, 1000}, ends{-5000, -5000}, false, false},
	})
}

// TestFar asks of spans that end at the least number, or at the greatest one, and of such factors.
func TestFar(t *testing.T) {
	checkAsked(t, []asked{
		{[]int{0}, ends{-most, most}, true, false},
		{[]int{7}, ends{-most, most}, false, false},
		{[]int{0, 1000}, ends{-most, most}, true, true},
		{[]int{0, -1000}, ends{-most, most}, true, true},
		{[]int{0, 1000}, ends{-most, 0}, true, true},
		{[]int{0, 1000}, ends{0, most}, true, true},
		{[]int{0, 1000}, ends{1, most}, false, false},
		{[]int{0, 1000}, ends{-most, -1}, false, false},
		{[]int{0, 1}, ends{-most, most}, true, true},
		{[]int{0, 1000}, ends{most, most}, false, false},
		{[]int{0, 1000}, ends{-most, -most}, false, false},
		{[]int{most, -1000}, ends{most - 2, most}, true, true},
		{[]int{most, -1000}, ends{0, most}, true, true},
		{[]int{most, 1000}, ends{-most, 0}, true, true},
		{[]int{most - 1, -1000}, ends{0, most}, true, true},
		{[]int{most, 1000}, ends{-most, -most}, true, true},
		{[]int{most - 1, 1000}, ends{-most, -most}, false, false},
		{[]int{most, -1000}, ends{most, most}, true, true},
		{[]int{most, -1000}, ends{most - 1, most - 1}, false, false},
		{[]int{most, -most}, ends{0, 1000}, true, true},
		{[]int{-most, most}, ends{0, 1000}, true, true},
		{[]int{-most, most}, ends{1000, 1000}, true, true},
		{[]int{0, most}, ends{-1000, 1000}, true, true},
		{[]int{0, -most}, ends{-1000, 1000}, true, true},
		{[]int{0, 0, 500}, ends{-1000000, 1000000}, true, false},
		{[]int{0, 0, 0}, ends{-1000000, 1000000}, true, false},
		{[]int{-half, 0, 500}, ends{1000, 1000000}, true, true},
		{[]int{0, 0, 0, 0, 0}, ends{-31622, 31622}, true, false},
	})
}

// TestFull asks where the range over the whole span is beyond what may be.
func TestFull(t *testing.T) {
	for _, r := range []struct {
		p []int
		x ends
	}{
		// Of the slope.
		{[]int{0, 0, half + 1}, ends{0, 0}},
		{[]int{0, 0, 0, 0, -250000001}, ends{0, 0}},
		{[]int{0, 0, half}, ends{0, 1001}},
		{[]int{most, most, most, most, most}, ends{0, 0}},
		// Of Horner.
		{[]int{1, 1000}, ends{0, most}},
		{[]int{-1, 1000}, ends{-most, 0}},
		{[]int{0, 1001}, ends{-most, most}},
		{[]int{0, most}, ends{-1001, 1000}},
		{[]int{-half, -half, half}, ends{-1, 1000}},
		{[]int{-650000000, 80000000, 10000000}, ends{-4000, 1000}},
		// Of a power alone: also where its factor is 0, and where the slope has no 0 in it and the ends tell all.
		{[]int{0, 0, 0}, ends{1000001, 1000001}},
		{[]int{0, 1000, 0}, ends{-1000001, 1000001}},
		{[]int{1000, -1000, 0}, ends{-1, 1000001}},
		{[]int{0, 1, 0, 0}, ends{-100001, 100001}},
		{[]int{0, 1, 0, 0, 0}, ends{0, 31623}},
		// Of chapter 5's Range alone; likewise.
		{[]int{most, -1}, ends{0, 2}},
		{[]int{-most, 1}, ends{0, 2}},
		{[]int{0, 0, 1000}, ends{-707107, 707107}},
	} {
		checkMay(t, r.p, r.x.span(), false, api.ErrFull)
		checkSure(t, r.p, r.x.span(), false, api.ErrFull)
		for _, least := range []int{1, 1000, most} {
			checkFind(t, r.p, r.x.span(), least, nil, api.ErrFull)
		}
	}
}

// sought is a polynomial over a span, the least width, and what is found: pieces of which each begins where the one ahead ends stand together, by where they begin, and the last one ends.
type sought struct {
	p     []int
	x     ends
	least int
	found [][]int
}

func (s sought) pieces() []api.Span {
	var pieces []api.Span
	for _, cuts := range s.found {
		for i := range len(cuts) - 1 {
			pieces = append(pieces, api.Span{Lo: cuts[i], Hi: cuts[i+1]})
		}
	}
	return pieces
}

func checkSought(t *testing.T, all []sought) {
	t.Helper()
	for _, s := range all {
		checkFind(t, s.p, s.x.span(), s.least, s.pieces(), api.OK)
	}
}

func TestFind(t *testing.T) {
	checkSought(t, []sought{
		// One factor: nowhere, or everywhere.
		{[]int{3000}, ends{1000, 3000}, 10, nil},
		{[]int{-3000}, ends{-1000, 2000}, 5000, nil},
		{[]int{0}, ends{1000, 3000}, 1000, [][]int{{1000, 2000, 3000}}},
		{[]int{0}, ends{-3000, -1000}, 600, [][]int{{-3000, -2500, -2000, -1500, -1000}}},
		{[]int{0}, ends{-1000, 2000}, 1000, [][]int{{-1000, -250, 500, 1250, 2000}}},
		// Two.
		{[]int{1000, 1000}, ends{0, 4000}, 10, nil},
		{[]int{1000, 1000}, ends{-3000, -1500}, 10, nil},
		{[]int{1500, 1000}, ends{-3000, -1000}, 700, [][]int{{-2000, -1500, -1000}}},
		{[]int{1000, 1000}, ends{-2500, 2500}, 100, [][]int{{-1016, -938}}},
		{[]int{1000, 1000}, ends{-2500, 2500}, 1, [][]int{{-1001, -1000, -999}}},
		{[]int{500, -2000}, ends{-1000, 2000}, 1, [][]int{{249, 250, 251}}},
		{[]int{500, -2000}, ends{0, 3000}, 10, [][]int{{245, 251}}},
		{[]int{-2700, -1000}, ends{-3000, -1000}, 10, [][]int{{-2704, -2696}}},
		{[]int{3, 2}, ends{-4000, 2272}, 254, [][]int{{-2040, -1844, -1648, -1452, -1256, -1060, -864}}},
		// Three: with no root, with one, with two, with a double one.
		{[]int{2000, 0, 1000}, ends{-1000, 2000}, 10, nil},
		{[]int{2000, -3000, 1000}, ends{-3000, -1000}, 10, nil},
		{[]int{2000, -3000, 1000}, ends{1300, 3000}, 1, [][]int{{1998, 1999, 2000, 2001}}},
		{[]int{2000, -3000, 1000}, ends{-2500, 2500}, 10, [][]int{{995, 1005}, {1992, 2001}}},
		{[]int{2000, -3000, 1000}, ends{-2500, 2500}, 1, [][]int{{999, 1000, 1001, 1002}, {1998, 1999, 2000, 2001}}},
		{[]int{-2000, 3000, -1000}, ends{0, 5000}, 250, [][]int{{937, 1093}, {1875, 2031}}},
		{[]int{-2000, -3000, -1000}, ends{-5000, -1}, 100, [][]int{{-2033, -1955}, {-1017, -939}}},
		{[]int{1000, -2000, 1000}, ends{-2500, 2500}, 250, [][]int{{937, 1093}}},
		{[]int{1000, -2000, 1000}, ends{-1000, 2000}, 10, [][]int{{968, 973, 979, 985, 991, 997, 1003, 1009, 1015, 1020, 1026, 1032}}},
		{[]int{-1000, 2000, -1000}, ends{-700, 2100}, 100, [][]int{{962, 1050}}},
		{[]int{0, 0, 1000}, ends{-1100, 900}, 100, [][]int{{-38, 25, 87}}},
		// Four.
		{[]int{0, 2000, -3000, 1000}, ends{-1500, 2500}, 100, [][]int{{-63, 0, 62}, {937, 1000, 1062}, {1937, 2000, 2062}}},
		{[]int{0, 2000, -3000, 1000}, ends{300, 2500}, 1, [][]int{{998, 999, 1000, 1001, 1002}, {1998, 1999, 2000, 2001}}},
		{[]int{0, 2000, -3000, 1000}, ends{-3000, -1000}, 1, nil},
		{[]int{0, 0, 2000, 1000}, ends{-3100, 1000}, 100, [][]int{{-2011, -1947}, {-25, 39}}},
		{[]int{-6000, 11000, -6000, 1000}, ends{0, 3500}, 50, [][]int{{984, 1011}, {1995, 2022}, {2979, 3007}}},
		{[]int{-6000, 11000, -6000, 1000}, ends{1500, 2600}, 1, [][]int{{1998, 1999, 2000, 2001, 2002, 2003}}},
		{[]int{-8000, 0, 0, 1000}, ends{-3000, 3000}, 1, [][]int{{1999, 2000, 2001}}},
		{[]int{1000, 3000, 3000, 1000}, ends{-3000, 1000}, 200, [][]int{{-1375, -1250, -1125, -1000, -875, -750, -625}}},
		{[]int{6000, -11000, 6000, -1000}, ends{500, 3500}, 10, [][]int{{997, 1003}, {1994, 2000, 2005}, {2995, 3001}}},
		// Five.
		{[]int{4000, 0, -5000, 0, 1000}, ends{-3000, 3500}, 20, [][]int{{-2011, -1998}, {-1008, -995}, {998, 1011}, {1988, 2001}}},
		{[]int{4000, 0, -5000, 0, 1000}, ends{-3000, -1500}, 1, [][]int{{-2001, -2000, -1999}}},
		{[]int{1000, 0, -2000, 0, 1000}, ends{-3000, 3500}, 300, [][]int{{-1172, -969}, {859, 1062}}},
		{[]int{0, -6000, 11000, -6000, 1000}, ends{-1000, 3900}, 50, [][]int{{-6, 32}, {990, 1028}, {1985, 2023}, {2981, 3019}}},
		{[]int{777, -333, 0, 1111, -999}, ends{-3000, 3000}, 1, [][]int{{-818, -817, -816, -815}, {1278, 1279, 1280, 1281}}},
		{[]int{-1000, -90000, 3000, -2000, 1000}, ends{-3000, 3000}, 1, [][]int{{-12, -11}}},
		{[]int{5000, 0, -2000, 0, 1000}, ends{-3000, 3000}, 1, nil},
	})
}

// TestFindNone asks where it may be over the whole span, as far as its range tells, and in no piece.
func TestFindNone(t *testing.T) {
	all := []sought{
		{[]int{-1900, 2700, -3000}, ends{-1000, 2400}, 1, nil},
		{[]int{600, -2100, 1900}, ends{300, 700}, 10, nil},
		{[]int{-200, 1400, -2700}, ends{-800, 2900}, 100, nil},
		{[]int{300, 0, -800, 1800}, ends{-200, 1000}, 100, nil},
		{[]int{-800, -2300, -1900, -300}, ends{-2100, 2200}, 100, nil},
		{[]int{-700, 1400, -2300, -2900, -700}, ends{-2600, 2100}, 100, nil},
	}
	checkSought(t, all)
	for _, s := range all {
		checkMay(t, s.p, s.x.span(), true, api.OK)
		checkFind(t, s.p, s.x.span(), s.x[1]-s.x[0], []api.Span{s.x.span()}, api.OK)
	}
}

func TestFindWidth(t *testing.T) {
	checkSought(t, []sought{
		// Just least, and one more.
		{[]int{-1000, 1000}, ends{500, 1500}, 1000, [][]int{{500, 1500}}},
		{[]int{-1000, 1000}, ends{500, 1501}, 1000, [][]int{{500, 1000, 1501}}},
		{[]int{-1000, 1000}, ends{0, 1500}, 1499, [][]int{{750, 1500}}},
		{[]int{-1000, 1000}, ends{0, 1500}, 1500, [][]int{{0, 1500}}},
		{[]int{-1000, 1000}, ends{0, 1500}, 1501, [][]int{{0, 1500}}},
		{[]int{0}, ends{-7, 3}, 10, [][]int{{-7, 3}}},
		{[]int{0}, ends{-7, 4}, 10, [][]int{{-7, -2, 4}}},
		{[]int{0}, ends{-7, 3}, 9, [][]int{{-7, -2, 3}}},
		{[]int{0}, ends{0, 1}, 1, [][]int{{0, 1}}},
		{[]int{0}, ends{0, 2}, 1, [][]int{{0, 1, 2}}},
		{[]int{0}, ends{0, 2}, 2, [][]int{{0, 2}}},
		{[]int{0}, ends{-3, 0}, 1, [][]int{{-3, -2, -1, 0}}},
		{[]int{0}, ends{0, 3}, 2, [][]int{{0, 1, 3}}},
		{[]int{0}, ends{0, 5}, 2, [][]int{{0, 2, 3, 5}}},
		{[]int{0}, ends{0, 4}, 1, [][]int{{0, 1, 2, 3, 4}}},
		// A piece is just least, and one more, so that pieces are not all as wide.
		{[]int{0}, ends{0, 2000}, 1000, [][]int{{0, 1000, 2000}}},
		{[]int{0}, ends{0, 2001}, 1000, [][]int{{0, 1000, 1500, 2001}}},
		{[]int{0}, ends{-2001, 0}, 1000, [][]int{{-2001, -1001, -501, 0}}},
		{[]int{0}, ends{-2001, 0}, 1001, [][]int{{-2001, -1001, 0}}},
		{[]int{0}, ends{0, 2001}, 1001, [][]int{{0, 1000, 2001}}},
		{[]int{0}, ends{0, 2003}, 1001, [][]int{{0, 1001, 1502, 2003}}},
		{[]int{0}, ends{-10, 13}, 5, [][]int{{-10, -5, -2, 1, 4, 7, 10, 13}}},
		{[]int{0}, ends{-13, 10}, 5, [][]int{{-13, -8, -5, -2, 1, 4, 7, 10}}},
		{[]int{0}, ends{-10, 13}, 6, [][]int{{-10, -5, 1, 7, 13}}},
		// Of one number.
		{[]int{0}, ends{0, 0}, 1, [][]int{{0, 0}}},
		{[]int{0}, ends{-7, -7}, most, [][]int{{-7, -7}}},
		{[]int{5}, ends{0, 0}, 1, nil},
		{[]int{-1000, 1000}, ends{1000, 1000}, 1, [][]int{{1000, 1000}}},
		{[]int{-1000, 1000}, ends{999, 999}, 1, nil},
		{[]int{2000, -3000, 1000}, ends{2000, 2000}, most, [][]int{{2000, 2000}}},
		{[]int{2000, -3000, 1000}, ends{1500, 1500}, 5, nil},
		// Least 1.
		{[]int{-1500, 1000}, ends{0, 3001}, 1, [][]int{{1499, 1500, 1501}}},
		{[]int{-1500, 1000}, ends{1500, 1501}, 1, [][]int{{1500, 1501}}},
		{[]int{-1500, 1000}, ends{1499, 1500}, 1, [][]int{{1499, 1500}}},
		{[]int{-1500, 1000}, ends{1499, 1501}, 1, [][]int{{1499, 1500, 1501}}},
		{[]int{-1500, 1000}, ends{1500, 1502}, 1, [][]int{{1500, 1501}}},
		{[]int{-1500, 1000}, ends{1501, 1502}, 1, nil},
		{[]int{2, 1000}, ends{-5, 3}, 1, [][]int{{-3, -2, -1}}},
		{[]int{-2, -1000}, ends{-5, 3}, 1, [][]int{{-3, -2, -1}}},
		{[]int{0, 0, 0, 1000}, ends{-2, 3}, 1, [][]int{{-2, -1, 0, 1, 2, 3}}},
	})
}

// TestFindMiddle asks where it is just 0 at a Middle.
func TestFindMiddle(t *testing.T) {
	checkSought(t, []sought{
		// In both pieces.
		{[]int{0, 1000}, ends{-1000, 1000}, 1000, [][]int{{-1000, 0, 1000}}},
		{[]int{0, 1000}, ends{-1000, 1001}, 1001, [][]int{{-1000, 0, 1001}}},
		{[]int{0, 1000}, ends{-1001, 1000}, 1001, [][]int{{-1, 1000}}},
		{[]int{0, 1000}, ends{-1000, 1002}, 1001, [][]int{{-1000, 1}}},
		{[]int{-1500, 1000}, ends{1000, 2000}, 999, [][]int{{1000, 1500, 2000}}},
		{[]int{1500, 1000}, ends{-2000, -1000}, 999, [][]int{{-2000, -1500, -1000}}},
		{[]int{2000, -3000, 1000}, ends{0, 4000}, 2000, [][]int{{0, 2000, 4000}}},
		{[]int{2000, -3000, 1000}, ends{0, 2000}, 1000, [][]int{{0, 1000, 2000}}},
		{[]int{1000, -2000, 1000}, ends{0, 2000}, 1000, [][]int{{0, 1000, 2000}}},
		// Rounded down: below 0 as well.
		{[]int{0, 1000}, ends{0, 1}, 1, [][]int{{0, 1}}},
		{[]int{0, 1000}, ends{-1, 2}, 2, [][]int{{-1, 0, 2}}},
		{[]int{0, 1000}, ends{-2, 1}, 2, [][]int{{-1, 1}}},
		{[]int{1000, 1000}, ends{-1001, -998}, 2, [][]int{{-1001, -1000, -998}}},
		{[]int{1000, 1000}, ends{-1002, -999}, 2, [][]int{{-1001, -999}}},
		// Of pieces of pieces.
		{[]int{0, 1000}, ends{-1000, 1000}, 500, [][]int{{-500, 0, 500}}},
		{[]int{0, 1000}, ends{-1000, 3000}, 250, [][]int{{-250, 0, 250}}},
		{[]int{0, 1000}, ends{-3000, 1000}, 250, [][]int{{-250, 0, 250}}},
		{[]int{0, 2000, -3000, 1000}, ends{-2000, 2000}, 500, [][]int{{-500, 0, 500, 1000, 1500, 2000}}},
		{[]int{0, 2000, -3000, 1000}, ends{-4000, 4000}, 1000, [][]int{{-1000, 0, 1000, 2000, 3000}}},
		{[]int{0, -1000, 0, 1000}, ends{-2000, 2000}, 500, [][]int{{-1500, -1000, -500, 0, 500, 1000, 1500}}},
		{[]int{4000, 0, -5000, 0, 1000}, ends{-4000, 4000}, 1000, [][]int{{-3000, -2000, -1000, 0, 1000, 2000, 3000}}},
		// At the ends of x: in one alone.
		{[]int{1000, 1000}, ends{-1000, 2000}, 100, [][]int{{-1000, -907}}},
		{[]int{-2000, 1000}, ends{-1000, 2000}, 100, [][]int{{1906, 2000}}},
		{[]int{2000, -3000, 1000}, ends{1000, 2000}, 10, [][]int{{1000, 1007}, {1992, 2000}}},
	})
}

// TestFindMost asks where there are just as many as may be.
func TestFindMost(t *testing.T) {
	all := []sought{
		{[]int{0}, ends{0, 32}, 1, [][]int{{0, 1, 2, 3, 4, 5, 6, 7, 8, 9, 10, 11, 12, 13, 14, 15, 16, 17, 18, 19, 20, 21, 22, 23, 24, 25, 26, 27, 28, 29, 30, 31, 32}}},
		{[]int{0}, ends{-16, 16}, 1, [][]int{{-16, -15, -14, -13, -12, -11, -10, -9, -8, -7, -6, -5, -4, -3, -2, -1, 0, 1, 2, 3, 4, 5, 6, 7, 8, 9, 10, 11, 12, 13, 14, 15, 16}}},
		{[]int{0, 0, 0, 0, 0}, ends{-3200, 3200}, 200, [][]int{{-3200, -3000, -2800, -2600, -2400, -2200, -2000, -1800, -1600, -1400, -1200, -1000, -800, -600, -400, -200, 0, 200, 400, 600, 800, 1000, 1200, 1400, 1600, 1800, 2000, 2200, 2400, 2600, 2800, 3000, 3200}}},
		{[]int{0, 0}, ends{-1000, 2000}, 94, [][]int{{-1000, -907, -813, -719, -625, -532, -438, -344, -250, -157, -63, 31, 125, 218, 312, 406, 500, 593, 687, 781, 875, 968, 1062, 1156, 1250, 1343, 1437, 1531, 1625, 1718, 1812, 1906, 2000}}},
		{[]int{-1, 0, 1}, ends{142, 423}, 10, [][]int{{142, 150, 159, 168, 177, 185, 194, 203, 212, 220, 229, 238, 247, 255, 264, 273, 282, 290, 299, 308, 317, 325, 334, 343, 352, 360, 369, 378, 387, 396, 405, 414, 423}}},
		{[]int{-1, -5, 4}, ends{-50, 2218}, 20, [][]int{{-50, -33, -15, 2}, {1242, 1260, 1278, 1296, 1313, 1331, 1349, 1367, 1384, 1402, 1420, 1438, 1455, 1473, 1491, 1509, 1526, 1544, 1562, 1580, 1597, 1615, 1633, 1651, 1668, 1686, 1703, 1721, 1738, 1756}}},
		{[]int{31, 80, 47}, ends{-1791, 2017}, 10, [][]int{{-1175, -1167}, {-1152, -1145, -1137, -1130, -1122, -1115, -1107, -1100, -1092, -1085, -1077, -1070, -1063, -1056, -1048, -1041}, {-669, -661}, {-654, -646, -639, -631, -624, -616, -609, -601, -594, -587, -580, -572, -565, -557, -550, -542}}},
		{[]int{13, -17, -18, 7}, ends{-2457, 641}, 10, [][]int{{-1157, -1151, -1145, -1139, -1133, -1127, -1121, -1115, -1109, -1102, -1096, -1090, -1084, -1078, -1072}, {477, 483, 489, 495, 501, 507, 513, 519, 525, 531, 537, 544, 550, 556, 562, 568, 574, 580, 586}}},
		{[]int{-81, -34, 61, 95, 100}, ends{-2246, 1682}, 1, [][]int{{-932, -931, -930, -929, -928, -927, -926, -925, -924, -923, -922, -921, -920, -919, -918, -917, -916, -915, -914, -913, -912, -911, -910}, {747, 748, 749, 750, 751, 752, 753, 754, 755, 756, 757}}},
		{[]int{-1, 0, 5, -4, -4}, ends{265, 455}, 10, [][]int{{265, 270, 276, 282, 288, 294, 300, 306, 312, 318, 324, 330, 336, 342, 348, 354, 360, 365, 371, 377, 383, 389, 395, 401, 407, 413, 419, 425, 431, 437, 443, 449, 455}}},
	}
	checkSought(t, all)
	for _, s := range all {
		if many := len(s.pieces()); many != api.MaxPieces {
			t.Errorf("Find(%v, %v, %d) is meant to be %d pieces, not %d", s.p, s.x, s.least, api.MaxPieces, many)
		}
	}
}

// TestFindMore asks where there would be more than may be, and no range is beyond what may be.
func TestFindMore(t *testing.T) {
	for _, s := range []sought{
		// One more than may be.
		{[]int{0}, ends{0, 33}, 1, nil},
		{[]int{0}, ends{-16, 17}, 1, nil},
		{[]int{0}, ends{-17, 16}, 1, nil},
		{[]int{0, 0, 0, 0, 0}, ends{-3200, 3201}, 200, nil},
		{[]int{-4, -3}, ends{-1285, 944}, 10, nil},
		{[]int{-7, -4, 20}, ends{313, 683}, 1, nil},
		{[]int{-4, 1, 4}, ends{-1861, 2227}, 20, nil},
		{[]int{-88, 66, 98, -72}, ends{528, 2526}, 5, nil},
		{[]int{10, -19, 8, -18, 16}, ends{-1053, 2064}, 20, nil},
		// More than that.
		{[]int{0, 0}, ends{-1000, 2000}, 93, nil},
		{[]int{0}, ends{-most, most}, 1, nil},
		{[]int{0}, ends{-most, most}, 62499999, nil},
		{[]int{0}, ends{0, most}, 31249999, nil},
		{[]int{0, 0}, ends{-most, most}, 1000, nil},
		{[]int{0, 0, 0, 0, 0}, ends{-31622, 31622}, 1, nil},
		{[]int{1000, -2000, 1000}, ends{-2500, 2500}, 1, nil},
		{[]int{0, 1}, ends{-most, most}, 1, nil},
		{[]int{1, -2, 1}, ends{0, 2000}, 1, nil},
	} {
		checkFind(t, s.p, s.x.span(), s.least, nil, api.ErrFull)
	}
}

// TestFindFar asks of spans that end at the least number, or at the greatest one, and of the greatest width that may be the least.
func TestFindFar(t *testing.T) {
	checkSought(t, []sought{
		{[]int{0}, ends{-most, most}, most, [][]int{{-most, 0, most}}},
		{[]int{0}, ends{-most, 0}, most, [][]int{{-most, 0}}},
		{[]int{0}, ends{-most, 1}, most, [][]int{{-most, -half, 1}}},
		{[]int{0}, ends{-1, most}, most, [][]int{{-1, 499999999, most}}},
		{[]int{0}, ends{0, most}, most - 1, [][]int{{0, half, most}}},
		{[]int{0}, ends{-most, most}, half, [][]int{{-most, -half, 0, half, most}}},
		{[]int{0}, ends{-most, most}, 62500000, [][]int{{-most, -937500000, -875000000, -812500000, -750000000, -687500000, -625000000, -562500000, -half, -437500000, -375000000, -312500000, -250000000, -187500000, -125000000, -62500000, 0, 62500000, 125000000, 187500000, 250000000, 312500000, 375000000, 437500000, half, 562500000, 625000000, 687500000, 750000000, 812500000, 875000000, 937500000, most}}},
		{[]int{7}, ends{-most, most}, 1, nil},
		{[]int{0, 1000}, ends{-most, most}, 1, [][]int{{-1, 0, 1}}},
		{[]int{0, -1000}, ends{-most, most}, most, [][]int{{-most, 0, most}}},
		{[]int{0, 1000}, ends{-most, most}, most - 1, [][]int{{-half, 0, half}}},
		{[]int{0, 1000}, ends{-most, most - 1}, 1, [][]int{{-1, 0, 1}}},
		{[]int{0, 1000}, ends{-most + 1, most}, 1, [][]int{{-1, 0, 1}}},
		{[]int{0, 1000}, ends{0, most}, 1, [][]int{{0, 1}}},
		{[]int{0, 1000}, ends{-most, 0}, 1, [][]int{{-1, 0}}},
		{[]int{0, 1000}, ends{1, most}, 1, nil},
		{[]int{most, -1000}, ends{0, most}, 1, [][]int{{most - 1, most}}},
		{[]int{most, 1000}, ends{-most, 0}, 1, [][]int{{-most, -most + 1}}},
		{[]int{most, 1000}, ends{-most, -most}, 1, [][]int{{-most, -most}}},
		{[]int{most - 1, -1000}, ends{0, most}, 1, [][]int{{most - 2, most - 1, most}}},
		{[]int{most - 1, 1000}, ends{-most, 0}, 1, [][]int{{-most, -most + 1, -most + 2}}},
		{[]int{-7, 1000}, ends{-999999993, most}, 1, [][]int{{6, 7, 8}}},
		{[]int{0, most}, ends{-1000, 1000}, 1, [][]int{{-1, 0, 1}}},
		{[]int{most, -most}, ends{0, 1000}, 1, [][]int{{999, 1000}}},
		{[]int{-most, most}, ends{0, 1000}, most, [][]int{{0, 1000}}},
		{[]int{123456789, -1000}, ends{-876543211, most}, 1000, [][]int{{123456551, 123457446}}},
	})
}

// TestPieceFull asks where the range over one piece alone is beyond what may be, and which; found are those that are found else, ahead of it or behind it.
func TestPieceFull(t *testing.T) {
	for _, r := range []struct {
		sought
		which ends
	}{
		{sought{[]int{0, 1003}, ends{-997008973, 651286318}, 824147646, [][]int{{-172861328, 651286318}}}, ends{-997008973, -172861328}},
		{sought{[]int{0, 1001}, ends{-999000998, 999000999}, 999000999, [][]int{{-999000998, 0}}}, ends{0, 999000999}},
		{sought{[]int{0, 1001}, ends{-999000998, 999000999}, 1, [][]int{{-1, 0}}}, ends{0, 999000999}},
		{sought{[]int{0, -1501}, ends{-666222518, 666222518}, 333111260, [][]int{{-333111259, 0, 333111259}}}, ends{-666222518, -333111259}},
		{sought{[]int{0, 1999}, ends{-500250124, 500250125}, 250125063, [][]int{{-250125062, 0, 250125062}}}, ends{250125062, 500250125}},
		{sought{[]int{0, 1999}, ends{-500250124, 500250125}, 1, [][]int{{-1, 0, 1}}}, ends{250125062, 500250125}},
		{sought{[]int{512972118, -32373563, 0}, ends{-15044, 22097}, 2321, [][]int{{15132, 16293}}}, ends{-15044, 3526}},
		{sought{[]int{564822545, 671570146, 0}, ends{-869, 648}, 23, [][]int{{-846, -834}}}, ends{-111, 648}},
		{sought{[]int{51383510, -58814340, 0, 0}, ends{-16129, 8542}, 12336, [][]int{{-3794, 8542}}}, ends{-16129, -3794}},
		{sought{[]int{65498631, 349346306, 0, 0}, ends{-2649, 2675}, 1331, [][]int{{-1318, 13}}}, ends{13, 2675}},
		{sought{[]int{60641753, -347652941, 0, 0, 0}, ends{-2702, 2154}, 303, [][]int{{29, 181}}}, ends{-2702, -274}},
		{sought{[]int{-628833189, -306749430, 0, 0, 0}, ends{-2774, 1210}, 996, [][]int{{-2774, -1778}}}, ends{-782, 1210}},
	} {
		checkMay(t, r.p, r.x.span(), true, api.OK)
		checkMay(t, r.p, r.which.span(), false, api.ErrFull)
		checkFind(t, r.p, r.x.span(), r.least, nil, api.ErrFull)
		for _, found := range r.pieces() {
			checkMay(t, r.p, found, true, api.OK)
			checkFind(t, r.p, found, r.least, []api.Span{found}, api.OK)
		}
		// As wide as the whole span is nothing is parted, so that none is asked but the whole.
		if width := r.x[1] - r.x[0]; width <= most {
			checkFind(t, r.p, r.x.span(), width, []api.Span{r.x.span()}, api.OK)
		}
	}
}

// TestUnasked asks where the range over a piece would be beyond what may be, but it is not over the whole span, and has no 0 in it there: then no piece is asked.
func TestUnasked(t *testing.T) {
	all := []sought{
		{[]int{most, -1}, ends{0, 2000}, 1, nil},
		{[]int{-most, 1}, ends{0, 2000}, 1, nil},
		{[]int{most - 1, -1}, ends{-3, 4}, 2, nil},
		{[]int{-most + 1, 1}, ends{-4, 5}, 2, nil},
	}
	checkSought(t, all)
	for _, s := range all {
		middle, _ := power.Middle(s.x.span())
		checkMay(t, s.p, s.x.span(), false, api.OK)
		checkMay(t, s.p, api.Span{Lo: s.x[0], Hi: middle}, false, api.ErrFull)
	}
}

// TestFindFresh sees that what comes out is the caller's: neither another answer's, nor one that a later call goes by.
func TestFindFresh(t *testing.T) {
	p, x := []int{0}, api.Span{Lo: -1600, Hi: 1600}
	for _, least := range []int{100, 200, 450, 1600, most} {
		first, _ := root.Find(p, x, least)
		second, _ := root.Find(p, x, least)
		want := slices.Clone(second)
		_ = append(first, api.Span{Lo: behind})
		for i := range first {
			first[i] = api.Span{Lo: behind, Hi: behind}
		}
		if len(want) == 0 || !slices.Equal(second, want) {
			t.Errorf("Find(%v, %v, %d): two answers share memory", p, x, least)
		}
		checkFind(t, p, x, least, want, api.OK)
	}
}

// somePolys, someSpans and someLeasts are such as nothing is wrong with; some are beyond what may be together, or would be found in more than may be: what is wrong is told ahead of that.
var (
	somePolys  = [][]int{{0}, {1000, -3000, 2000}, {1, 2, 3, 4, 5}, {0, 0, half + 1}, {0, 0, 0, 0, -most}, {most, most, most}}
	someSpans  = []ends{{0, 0}, {1000, 2000}, {-most, most}}
	someLeasts = []int{1, 1000, most}
)

// checkWrong asks all three calls of what is wrong with a polynomial, or with a span.
func checkWrong(t *testing.T, p []int, x ends, told api.Errno) {
	t.Helper()
	checkMay(t, p, x.span(), false, told)
	checkSure(t, p, x.span(), false, told)
	// Whatever is wrong with least is told behind that.
	for _, least := range slices.Concat(someLeasts, wrongLeasts) {
		checkFind(t, p, x.span(), least, nil, told)
	}
}

func TestWrongPoly(t *testing.T) {
	for _, w := range wrongPolys {
		for _, x := range someSpans {
			checkWrong(t, w.p, x, w.told)
		}
		// What is wrong with the span is told behind that.
		for _, x := range wrongSpans {
			checkWrong(t, w.p, x.x, w.told)
		}
	}
}

func TestWrongSpan(t *testing.T) {
	for _, w := range wrongSpans {
		for _, p := range somePolys {
			checkWrong(t, p, w.x, w.told)
		}
	}
}

func TestWrongLeast(t *testing.T) {
	for _, least := range wrongLeasts {
		for _, p := range somePolys {
			for _, x := range someSpans {
				checkFind(t, p, x.span(), least, nil, api.ErrRange)
			}
		}
	}
}

// meantMay is what the document says of May, by chapter 6's Range.
func meantMay(p []int, x api.Span) (bool, error) {
	over, err := mono.Range(p, x)
	return err == nil && over.Lo <= 0 && over.Hi >= 0, err
}

// meantFind is what the document says of Find, from the last piece to the first one.
func meantFind(p []int, x api.Span, least int) ([]api.Span, error) {
	if err := poly.Check(p); err != nil {
		return nil, err
	}
	if err := span.Check(x); err != nil {
		return nil, err
	}
	if least <= 0 || least >= 1000000001 {
		return nil, api.ErrRange
	}
	var found []api.Span
	for left := []api.Span{x}; len(left) > 0; {
		last := left[len(left)-1]
		left = left[:len(left)-1]
		may, err := meantMay(p, last)
		if err != nil {
			return nil, api.ErrFull
		}
		if may && last.Lo+least < last.Hi {
			middle := (last.Lo + last.Hi) >> 1
			left = append(left, api.Span{Lo: last.Lo, Hi: middle}, api.Span{Lo: middle, Hi: last.Hi})
		} else if may {
			found = append(found, last)
		}
		if len(found) > 32 {
			return nil, api.ErrFull
		}
	}
	slices.Reverse(found)
	return found, nil
}

// meantSure is what the document says of Sure, by what chapters 4 to 6 tell.
func meantSure(p []int, x api.Span) (bool, error) {
	if _, err := mono.Range(p, x); err != nil {
		return false, err
	}
	way, _ := mono.Way(p, x)
	slope, _ := center.Slope(p, x)
	if way == 0 || slope.Lo <= 0 && slope.Hi >= 0 {
		return false, nil
	}
	at, _ := poly.Horner(p, api.Span{Lo: x.Lo, Hi: x.Lo})
	to, _ := poly.Horner(p, api.Span{Lo: x.Hi, Hi: x.Hi})
	goesUp := at.Hi <= 0 && to.Lo >= 0
	goesDown := at.Lo >= 0 && to.Hi <= 0
	return goesUp || goesDown, nil
}

// checkMeant asks all three calls, and holds them against what is meant.
func checkMeant(t *testing.T, p []int, x api.Span, least int) {
	t.Helper()
	may, err := meantMay(p, x)
	checkMay(t, p, x, may, plain.Told(err))
	sure, err := meantSure(p, x)
	checkSure(t, p, x, sure, plain.Told(err))
	found, err := meantFind(p, x, least)
	checkFind(t, p, x, least, found, plain.Told(err))
}

// TestAllOfEdges goes over polynomials whose factors, spans whose ends, and leasts, are of numbers at which something turns.
func TestAllOfEdges(t *testing.T) {
	factors := []int{-most, -1, 0, 1000, half}
	spanEnds := []int{math.MinInt, -most - 1, -most, -1000001, -1001, 0, 31, 1000000, most, math.MaxInt}
	leasts := []int{math.MinInt, -1, 0, 1, 2, 1000, most, most + 1, math.MaxInt}
	polys := [][]int{nil, {0, 0, 0, 0, 0, 0}, {0, most + 1}, {math.MinInt, 0, 0}, {7, 0, -1, 1000}, {-1, 1, 0, 0, 250000000}}
	longer := [][]int{nil}
	for range 3 {
		longer = withOneMore(longer, factors)
		polys = append(polys, longer...)
	}
	for _, p := range polys {
		for _, lo := range spanEnds {
			for _, hi := range spanEnds {
				for _, least := range leasts {
					checkMeant(t, p, api.Span{Lo: lo, Hi: hi}, least)
				}
			}
		}
	}
}

// withOneMore gives each list with each number behind it.
func withOneMore(lists [][]int, numbers []int) [][]int {
	var longer [][]int
	for _, l := range lists {
		for _, n := range numbers {
			longer = append(longer, append(slices.Clone(l), n))
		}
	}
	return longer
}

// ordinary are polynomials that are beyond what may be nowhere near 0, with roots there or without.
var ordinary = [][]int{
	{7}, {-1000, 1}, {500, -2000}, {1, -2, 3}, {2000, -3000, 1000}, {1000, -2000, 1000}, {0, 0, 2000, 1000}, {-500, 1500, -2500, 3500},
	{0, 2000, -3000, 1000}, {-6000, 11000, -6000, 1000}, {0, 0, 0, 0, 1}, {1000, 0, -2000, 0, 1000}, {4000, 0, -5000, 0, 1000},
	{777, -333, 0, 1111, -999}, {-1, -2, -3, -4, -5}, {7000, 30000, -2000, 1000}, {1000, -90000, 3000, -2000, 1000},
}

// farthest is how far from 0 the ordinary ones are asked.
const farthest = 3000

// eachOrdinary asks each of them over spans below 0, above it and across it, with leasts that are narrow and wide.
func eachOrdinary(ask func(p []int, x api.Span, least int)) {
	for _, p := range ordinary {
		for lo := -farthest; lo <= farthest; lo += 500 {
			for hi := lo; hi <= farthest; hi += 571 {
				for _, least := range []int{1, 7, 100, 571, 2000} {
					ask(p, api.Span{Lo: lo, Hi: hi}, least)
				}
			}
		}
	}
}

func TestOrdinary(t *testing.T) {
	eachOrdinary(func(p []int, x api.Span, least int) {
		checkMeant(t, p, x, least)
	})
}

// TestNoneLost asks whether each root in a span is in a piece that is found there.
func TestNoneLost(t *testing.T) {
	var roots []api.Span
	var of []int
	eachOrdinary(func(p []int, x api.Span, least int) {
		if !slices.Equal(of, p) {
			of, roots = p, rootsOf(p)
		}
		found, err := root.Find(p, x, least)
		if err != nil {
			return
		}
		for _, r := range roots {
			if within(r, x) && !slices.ContainsFunc(found, func(f api.Span) bool { return within(r, f) }) {
				t.Errorf("Find(%v, %v, %d) = %v, and the root in %v is in none of them", p, x, least, found, r)
			}
		}
		if may, _ := root.May(p, x); !may && slices.ContainsFunc(roots, func(r api.Span) bool { return within(r, x) }) {
			t.Errorf("May(%v, %v) = false, and a root is there", p, x)
		}
	})
}

// rootsOf gives the numbers at which a polynomial is just 0, and the two next to each other between which it turns its sign.
func rootsOf(p []int) []api.Span {
	var roots []api.Span
	for at := -farthest; at <= farthest; at++ {
		here, next := exactly(p, at), exactly(p, at+1)
		if here == 0 {
			roots = append(roots, api.Span{Lo: at, Hi: at})
		} else if next != 0 && (here < 0) != (next < 0) {
			roots = append(roots, api.Span{Lo: at, Hi: at + 1})
		}
	}
	return roots
}

func within(a, b api.Span) bool {
	return b.Lo <= a.Lo && a.Hi <= b.Hi
}

// TestPiecesFound asks whether each piece that is found is one that may be, in x, no wider than least, and behind the one ahead.
func TestPiecesFound(t *testing.T) {
	eachOrdinary(func(p []int, x api.Span, least int) {
		found, err := root.Find(p, x, least)
		if told := plain.Told(err); told != api.OK && told != api.ErrFull {
			t.Errorf("Find(%v, %v, %d): %v", p, x, least, err)
		}
		from := x.Lo
		for _, f := range found {
			may, _ := root.May(p, f)
			if !may || f.Lo < from || f.Hi > x.Hi || f.Hi < f.Lo || f.Hi-f.Lo > least {
				t.Errorf("Find(%v, %v, %d) has %v in it, behind %d", p, x, least, f, from)
			}
			from = f.Hi
		}
	})
}

// TestSureIsTrue asks whether, where Sure says so, it is on both sides of 0 at the ends, or 0 at one, and goes up alone, or down alone, from number to number.
func TestSureIsTrue(t *testing.T) {
	sures := 0
	for _, p := range ordinary {
		for lo := -farthest; lo <= farthest; lo += 250 {
			for hi := lo; hi <= farthest; hi += 250 {
				x := api.Span{Lo: lo, Hi: hi}
				if sure, err := root.Sure(p, x); err != nil {
					t.Errorf("Sure(%v, %v): %v", p, x, err)
				} else if sure {
					sures++
					checkJustOne(t, p, x)
				}
			}
		}
	}
	if sures < 100 {
		t.Errorf("only %d are sure", sures)
	}
}

func checkJustOne(t *testing.T, p []int, x api.Span) {
	t.Helper()
	from, to := exactly(p, x.Lo), exactly(p, x.Hi)
	if from < 0 && to < 0 || from > 0 && to > 0 {
		t.Errorf("Sure(%v, %v), and both ends are on one side of 0", p, x)
	}
	for at := x.Lo; at < x.Hi; at++ {
		if here, next := exactly(p, at), exactly(p, at+1); here == next || (here < next) != (from < to) {
			t.Errorf("Sure(%v, %v), and at %d it turns", p, x, at)
		}
	}
	if may, err := root.May(p, x); !may || err != nil {
		t.Errorf("Sure(%v, %v), and May is %v, %v", p, x, may, err)
	}
}

// scale is how many of what exactly tells are a thousandth: enough for the greatest power.
const scale = 1000 * 1000 * 1000 * 1000

// exactly is what a polynomial of small factors is at a small number, without rounding.
func exactly(p []int, at int) int {
	sum, weight := 0, scale
	power := 1
	for _, f := range p {
		sum += f * power * weight
		power *= at
		weight /= 1000
	}
	return sum
}

// FuzzOver holds any polynomial over any span with any least against what is meant.
func FuzzOver(f *testing.F) {
	f.Add(uint8(3), 2000, -3000, 1000, 0, 0, 528, 2528, 3)
	f.Add(uint8(5), 4000, 0, -5000, 0, 1000, -2000, 2006, 1)
	f.Add(uint8(6), 0, 0, 0, 0, math.MinInt, 1, 0, 0)
	f.Fuzz(func(t *testing.T, count uint8, a, b, c, d, e, lo, hi, least int) {
		for _, bound := range []int{math.MaxInt, most + 2, 40000, 3000} {
			// Most ints are none that may be, and most products are beyond it, so they are brought near as well.
			near := []int{a % bound, b % bound, c % bound, d % bound, e % bound, a % bound}
			p := near[:int(count)%(len(near)+1)]
			checkMeant(t, p, api.Span{Lo: lo % bound, Hi: hi % bound}, least)
			checkMeant(t, p, api.Span{Lo: min(lo%bound, hi%bound), Hi: max(lo%bound, hi%bound)}, least%bound)
		}
	})
}
