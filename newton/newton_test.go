package newton_test

import (
	"math"
	"slices"
	"testing"

	"spanmeadow/api"
	"spanmeadow/center"
	"spanmeadow/newton"
	"spanmeadow/plain"
	"spanmeadow/poly"
	"spanmeadow/power"
	"spanmeadow/span"
)

// most is the greatest number that may be, and half the half of it.
const (
	most = api.MaxNumber
	half = most / 2
)

// behind is what is laid behind a list's length, to tell whether it is written over.
const behind = 4711

// ends of a span.
type ends [2]int

func (e ends) span() api.Span { return api.Span{Lo: e[0], Hi: e[1]} }

// wrongPolys are polynomials with a fault, and which; where several are wrong with one, what is told first.
var wrongPolys = []struct {
	p    []int
	told api.Errno
}{
	{nil, api.ErrNone},
	{[]int{}, api.ErrNone},
	{[]int{1, 2, 3, 4, 5}[:0], api.ErrNone},
	{[]int{0, 0, 0, 0, 0, 0}, api.ErrFull},
	{[]int{1000, 1000, 1000, 1000, 1000, 1000}, api.ErrFull},
	{make([]int, 1000), api.ErrFull},
	{[]int{most + 1}, api.ErrRange},
	{[]int{-most - 1}, api.ErrRange},
	{[]int{math.MinInt}, api.ErrRange},
	{[]int{math.MaxInt}, api.ErrRange},
	{[]int{most + 1, 0, 0, 0, 0}, api.ErrRange},
	{[]int{0, -most - 1, 0, 0, 0}, api.ErrRange},
	{[]int{0, 0, math.MaxInt, 0, 0}, api.ErrRange},
	{[]int{0, 0, 0, math.MinInt, 0}, api.ErrRange},
	{[]int{0, 0, 0, 0, most + 1}, api.ErrRange},
	// Too many, and one that may not be: the many are told first.
	{[]int{most + 1, 0, 0, 0, 0, 0}, api.ErrFull},
	{[]int{0, 0, 0, 0, 0, math.MinInt}, api.ErrFull},
	// The slope would be beyond what may be as well.
	{[]int{most + 1, 0, most}, api.ErrRange},
}

// wrongSpans are spans with a fault, and which.
var wrongSpans = []struct {
	x    ends
	told api.Errno
}{
	{ends{1, 0}, api.ErrShape},
	{ends{0, -1}, api.ErrShape},
	{ends{most, -most}, api.ErrShape},
	{ends{-most + 1, -most}, api.ErrShape},
	{ends{0, most + 1}, api.ErrRange},
	{ends{-most - 1, 0}, api.ErrRange},
	{ends{most + 1, 0}, api.ErrRange},
	{ends{0, -most - 1}, api.ErrRange},
	{ends{-most - 1, most + 1}, api.ErrRange},
	{ends{math.MinInt, math.MaxInt}, api.ErrRange},
	{ends{math.MaxInt, math.MinInt}, api.ErrRange},
	{ends{math.MinInt, math.MinInt}, api.ErrRange},
	{ends{math.MaxInt, math.MaxInt}, api.ErrRange},
}

// wrongSteps are more than may be gone, or fewer than none; some are from 0 to 20 in their last bytes.
var wrongSteps = []int{-1, -2, -20, -most, 21, 22, 32, 255, 256, 1000, most, most + 1, 1 << 32, 1<<32 + 1, -1<<32 + 7, math.MinInt, math.MinInt + 3, math.MaxInt}

// handed is a list for a call, with memory behind its length; unchanged tells whether all of it is as it was.
func handed(p []int) (list []int, unchanged func() bool) {
	// Without memory nil stays nil, so that it is asked too.
	if p == nil {
		return nil, func() bool { return true }
	}
	whole := append(slices.Clone(p), behind, behind)
	before := slices.Clone(whole)
	return whole[:len(p)], func() bool { return slices.Equal(whole, before) }
}

func checkStep(t *testing.T, p []int, x, want api.Span, told api.Errno) {
	t.Helper()
	list, unchanged := handed(p)
	got, err := newton.Step(list, x)
	if got != want || plain.Told(err) != told {
		t.Errorf("Step(%v, %v) = %v, %v; want %v, %v", p, x, got, err, want, told)
	}
	if !unchanged() {
		t.Errorf("Step(%v, %v) changed what it was handed", p, x)
	}
}

func checkRun(t *testing.T, p []int, x api.Span, steps int, want api.Span, told api.Errno) {
	t.Helper()
	list, unchanged := handed(p)
	got, err := newton.Run(list, x, steps)
	if got != want || plain.Told(err) != told {
		t.Errorf("Run(%v, %v, %d) = %v, %v; want %v, %v", p, x, steps, got, err, want, told)
	}
	if !unchanged() {
		t.Errorf("Run(%v, %v, %d) changed what it was handed", p, x, steps)
	}
}

// stepped is a polynomial over a span, and what one Step tells.
type stepped struct {
	p    []int
	x    ends
	near ends
	told api.Errno
}

// checkStepped asks Step, and Run of one Step, and of none, which tells no fault of a Step.
func checkStepped(t *testing.T, all []stepped) {
	t.Helper()
	for _, s := range all {
		x, near := s.x.span(), s.near.span()
		checkStep(t, s.p, x, near, s.told)
		checkRun(t, s.p, x, 1, near, s.told)
		checkRun(t, s.p, x, 0, x, api.OK)
		if s.told != api.OK {
			checkRun(t, s.p, x, 2, api.Span{}, s.told)
			checkRun(t, s.p, x, api.MaxSteps, api.Span{}, s.told)
		}
	}
}

// chained is a polynomial over a span, what Step by Step tells, as long as each changes something, and what the next one tells.
type chained struct {
	p    []int
	x    ends
	near []ends
	told api.Errno
}

// after gives what so many Steps tell.
func (c chained) after(steps int) (api.Span, api.Errno) {
	if steps > len(c.near) && c.told != api.OK {
		return api.Span{}, c.told
	}
	if steps = min(steps, len(c.near)); steps == 0 {
		return c.x.span(), api.OK
	}
	return c.near[steps-1].span(), api.OK
}

// checkChained asks Step from each to the next one, and Run of as many as there may be.
func checkChained(t *testing.T, all []chained) {
	t.Helper()
	for _, c := range all {
		for i := range len(c.near) + 1 {
			from, _ := c.after(i)
			to, told := c.after(i + 1)
			checkStep(t, c.p, from, to, told)
		}
		for steps := range api.MaxSteps + 1 {
			want, told := c.after(steps)
			checkRun(t, c.p, c.x.span(), steps, want, told)
		}
	}
}

// TestOver asks polynomials of one to five factors over spans above 0, below it, across it, of one number, and of some numbers near 0.
func TestOver(t *testing.T) {
	spans := [...]ends{{2000, 3000}, {-3000, -2000}, {-400, 300}, {-1500, 2500}, {0, 1000}, {900, 1400}, {1600, 2200}, {-1300, -900}, {1000, 1000}, {-1, 1}}
	type answer struct {
		near ends
		told api.Errno
	}
	none, zero := answer{told: api.ErrNone}, answer{told: api.ErrZero}
	for _, r := range []struct {
		p    []int
		want [len(spans)]answer
	}{
		{[]int{5000},
			[...]answer{zero, zero, zero, zero, zero, zero, zero, zero, zero, zero}},
		{[]int{0},
			[...]answer{zero, zero, zero, zero, zero, zero, zero, zero, zero, zero}},
		{[]int{1000, 2000},
			[...]answer{none, none, none, {ends{-500, -500}, api.OK}, none, none, none, none, none, none}},
		{[]int{-1000, -1000},
			[...]answer{none, none, none, {ends{-1000, -1000}, api.OK}, none, none, none, {ends{-1000, -1000}, api.OK}, none, none}},
		{[]int{-1500, 1000},
			[...]answer{none, none, none, {ends{1500, 1500}, api.OK}, none, none, none, none, none, none}},
		{[]int{2500, -1000},
			[...]answer{{ends{2500, 2500}, api.OK}, none, none, {ends{2500, 2500}, api.OK}, none, none, none, none, none, none}},
		{[]int{1, 3},
			[...]answer{none, none, {ends{-384, -50}, api.OK}, {ends{-500, -166}, api.OK}, none, none, none, none, none, none}},
		{[]int{2000, -3000, 1000},
			[...]answer{{ends{2000, 2250}, api.OK}, none, none, zero, {ends{750, 1000}, api.OK}, {ends{900, 1045}, api.OK}, {ends{1964, 2200}, api.OK}, none, {ends{1000, 1000}, api.OK}, none}},
		{[]int{-2000, 3000, -1000},
			[...]answer{{ends{2000, 2250}, api.OK}, none, none, zero, {ends{750, 1000}, api.OK}, {ends{900, 1045}, api.OK}, {ends{1964, 2200}, api.OK}, none, {ends{1000, 1000}, api.OK}, none}},
		{[]int{1000, -2000, 1000},
			[...]answer{none, none, none, zero, zero, zero, none, none, zero, none}},
		{[]int{2000, 0, 1000},
			[...]answer{none, none, zero, zero, zero, none, none, none, none, zero}},
		{[]int{-2250, 0, 1000},
			[...]answer{none, none, zero, zero, zero, none, none, none, none, zero}},
		{[]int{500, -1900, 100},
			[...]answer{none, none, {ends{250, 274}, api.OK}, {ends{196, 307}, api.OK}, {ends{250, 277}, api.OK}, none, none, none, none, none}},
		{[]int{0, 2000, -3000, 1000},
			[...]answer{{ends{2000, 2330}, api.OK}, none, zero, zero, zero, zero, zero, none, {ends{1000, 1000}, api.OK}, {ends{0, 0}, api.OK}}},
		{[]int{0, 0, 2000, 1000},
			[...]answer{none, {ends{-2292, -2000}, api.OK}, zero, zero, zero, none, none, none, none, zero}},
		{[]int{-6000, 11000, -6000, 1000},
			[...]answer{zero, none, none, zero, zero, zero, zero, none, {ends{1000, 1000}, api.OK}, none}},
		{[]int{-8000, 0, 0, 1000},
			[...]answer{{ends{2000, 2218}, api.OK}, none, zero, zero, zero, none, {ends{1978, 2049}, api.OK}, none, none, zero}},
		{[]int{1000, 3000, 3000, 1000},
			[...]answer{none, {ends{-2219, -2000}, api.OK}, {ends{-400, -219}, api.OK}, zero, {ends{0, 219}, api.OK}, none, none, zero, none, none}},
		{[]int{300, 4000, -100, 200},
			[...]answer{none, none, {ends{-76, -73}, api.OK}, {ends{-1340, 183}, api.OK}, none, none, none, none, none, none}},
		{[]int{4000, 0, -5000, 0, 1000},
			[...]answer{{ends{2000, 2349}, api.OK}, {ends{-2349, -2000}, api.OK}, zero, zero, zero, {ends{900, 1059}, api.OK}, {ends{1949, 2200}, api.OK}, {ends{-1034, -900}, api.OK}, {ends{1000, 1000}, api.OK}, zero}},
		{[]int{0, -6000, 11000, -6000, 1000},
			[...]answer{zero, none, zero, zero, zero, zero, zero, none, {ends{1000, 1000}, api.OK}, {ends{0, 0}, api.OK}}},
		{[]int{777, -333, 0, 1111, -999},
			[...]answer{{ends{2000, 2223}, api.OK}, {ends{-2102, -2000}, api.OK}, zero, zero, zero, {ends{1220, 1400}, api.OK}, {ends{1600, 1704}, api.OK}, {ends{-973, -900}, api.OK}, none, none}},
		{[]int{-1000, -90000, 3000, -2000, 1000},
			[...]answer{none, none, {ends{-13, -9}, api.OK}, {ends{-1015, 198}, api.OK}, none, none, none, none, none, none}},
		{[]int{-3000, 1500, 700, 0, 300},
			[...]answer{{ends{2000, 2058}, api.OK}, {ends{-2234, -2000}, api.OK}, none, zero, none, {ends{1101, 1125}, api.OK}, none, none, none, none}},
	} {
		for i, x := range spans {
			checkStepped(t, []stepped{{r.p, x, r.want[i].near, r.want[i].told}})
		}
	}
}

// TestRoot asks where one root is in the span, at either end of it, at its Middle, and just beside it; the Middle is rounded down.
func TestRoot(t *testing.T) {
	checkStepped(t, []stepped{
		// At the Middle: a line, and more factors; below 0, above 0 and across it.
		{[]int{-1000, 1000}, ends{500, 1500}, ends{1000, 1000}, api.OK},
		{[]int{-1000, 1000}, ends{500, 1501}, ends{1000, 1000}, api.OK},
		{[]int{1000, 1000}, ends{-1500, -500}, ends{-1000, -1000}, api.OK},
		{[]int{1000, 1000}, ends{-1500, -499}, ends{-1000, -1000}, api.OK},
		{[]int{0, 1000}, ends{-700, 700}, ends{0, 0}, api.OK},
		{[]int{0, -3000}, ends{-700, 701}, ends{0, 0}, api.OK},
		{[]int{2000, -3000, 1000}, ends{1900, 2100}, ends{2000, 2000}, api.OK},
		{[]int{2000, -3000, 1000}, ends{1900, 2101}, ends{2000, 2000}, api.OK},
		{[]int{-2000, -3000, -1000}, ends{-1300, -700}, ends{-1000, -1000}, api.OK},
		{[]int{0, 2000, -300, 100}, ends{-300, 300}, ends{0, 0}, api.OK},
		{[]int{-8000, 0, 0, 1000}, ends{1500, 2500}, ends{2000, 2000}, api.OK},
		{[]int{4000, 0, -5000, 0, 1000}, ends{-1200, -800}, ends{-1000, -1000}, api.OK},
		{[]int{4000, 0, -5000, 0, 1000}, ends{1900, 2101}, ends{2000, 2000}, api.OK},
		// Next to the Middle, which is rounded down.
		{[]int{-1000, 1000}, ends{500, 1499}, ends{1000, 1000}, api.OK},
		{[]int{1000, 1000}, ends{-1501, -500}, ends{-1000, -1000}, api.OK},
		{[]int{2000, -3000, 1000}, ends{1900, 2099}, ends{1999, 2001}, api.OK},
		{[]int{-2000, -3000, -1000}, ends{-1300, -701}, ends{-1001, -998}, api.OK},
		// At Lo.
		{[]int{-1000, 1000}, ends{1000, 2000}, ends{1000, 1000}, api.OK},
		{[]int{1000, -1000}, ends{1000, 1001}, ends{1000, 1000}, api.OK},
		{[]int{1500, 1000}, ends{-1500, -1000}, ends{-1500, -1500}, api.OK},
		{[]int{0, 1000}, ends{0, 700}, ends{0, 0}, api.OK},
		{[]int{2000, -3000, 1000}, ends{2000, 2500}, ends{2000, 2094}, api.OK},
		{[]int{2000, -3000, 1000}, ends{1000, 1400}, ends{1000, 1040}, api.OK},
		{[]int{-6000, 11000, -6000, 1000}, ends{3000, 3300}, ends{3000, 3072}, api.OK},
		{[]int{-6000, 11000, -6000, 1000}, ends{1000, 1100}, ends{1000, 1010}, api.OK},
		{[]int{4000, 0, -5000, 0, 1000}, ends{-2000, -1900}, ends{-2000, -1995}, api.OK},
		{[]int{0, -6000, 11000, -6000, 1000}, ends{3000, 3050}, ends{3000, 3007}, api.OK},
		// At Hi.
		{[]int{-1000, 1000}, ends{0, 1000}, ends{1000, 1000}, api.OK},
		{[]int{1000, -1000}, ends{999, 1000}, ends{1000, 1000}, api.OK},
		{[]int{1500, 1000}, ends{-2000, -1500}, ends{-1500, -1500}, api.OK},
		{[]int{0, 1000}, ends{-700, 0}, ends{0, 0}, api.OK},
		{[]int{2000, -3000, 1000}, ends{1700, 2000}, ends{1977, 2000}, api.OK},
		{[]int{2000, -3000, 1000}, ends{600, 1000}, ends{933, 1000}, api.OK},
		{[]int{-6000, 11000, -6000, 1000}, ends{2900, 3000}, ends{2989, 3000}, api.OK},
		{[]int{-6000, 11000, -6000, 1000}, ends{800, 1000}, ends{960, 1000}, api.OK},
		{[]int{4000, 0, -5000, 0, 1000}, ends{-2200, -2000}, ends{-2033, -2000}, api.OK},
		{[]int{0, -6000, 11000, -6000, 1000}, ends{-100, 0}, ends{-11, 0}, api.OK},
		// One beyond Lo, or Hi: of a line one Step tells that none is there, of others it does not yet.
		{[]int{-1000, 1000}, ends{1001, 2000}, ends{0, 0}, api.ErrNone},
		{[]int{-1000, 1000}, ends{0, 999}, ends{0, 0}, api.ErrNone},
		{[]int{1500, 1000}, ends{-1499, -1000}, ends{0, 0}, api.ErrNone},
		{[]int{1500, 1000}, ends{-2000, -1501}, ends{0, 0}, api.ErrNone},
		{[]int{2000, -3000, 1000}, ends{2001, 2100}, ends{2001, 2007}, api.OK},
		{[]int{2000, -3000, 1000}, ends{1900, 1999}, ends{1997, 1999}, api.OK},
		{[]int{4000, 0, -5000, 0, 1000}, ends{-1999, -1900}, ends{-1999, -1996}, api.OK},
		{[]int{4000, 0, -5000, 0, 1000}, ends{1001, 1200}, ends{1001, 1019}, api.OK},
	})
}

// TestSlope asks where the slope is above 0, below 0, begins at 0, ends at 0, has 0 between, and is 0 everywhere.
func TestSlope(t *testing.T) {
	for _, r := range []struct {
		stepped
		slope ends
	}{
		// It is above 0.
		{stepped{[]int{-1000, 0, 1000}, ends{1, 2000}, ends{1000, 1000}, api.OK}, ends{2, 4000}},
		{stepped{[]int{-1000, 0, 1000}, ends{900, 1200}, ends{992, 1008}, api.OK}, ends{1800, 2400}},
		{stepped{[]int{1000, 0, -2000}, ends{-2000, -1}, ends{-876, -1}, api.OK}, ends{4, 8000}},
		{stepped{[]int{2000, -3000, 1000}, ends{1501, 2300}, ends{1956, 2300}, api.OK}, ends{2, 1600}},
		{stepped{[]int{0, 2000, -300, 100}, ends{-300, 400}, ends{-9, 6}, api.OK}, ends{1724, 2207}},
		{stepped{[]int{-1000, 0, 0, 0, 1000}, ends{900, 1500}, ends{900, 1121}, api.OK}, ends{2916, 13500}},
		// It is below 0.
		{stepped{[]int{-1000, 0, 1000}, ends{-2000, -1}, ends{-1001, -1}, api.OK}, ends{-4000, -2}},
		{stepped{[]int{1000, 0, -1000}, ends{900, 1200}, ends{992, 1008}, api.OK}, ends{-2400, -1800}},
		{stepped{[]int{2000, -3000, 1000}, ends{0, 1499}, ends{853, 1499}, api.OK}, ends{-3000, -2}},
		{stepped{[]int{0, -2000, 300, -100}, ends{-300, 400}, ends{-9, 6}, api.OK}, ends{-2207, -1724}},
		{stepped{[]int{4000, 0, -5000, 0, 1000}, ends{700, 1100}, ends{968, 1069}, api.OK}, ends{-8844, -3612}},
		// It is one thousandth, above 0 or below it, or begins or ends there.
		{stepped{[]int{0, 1}, ends{-5000, 5000}, ends{0, 0}, api.OK}, ends{1, 1}},
		{stepped{[]int{0, -1}, ends{-5000, 5000}, ends{0, 0}, api.OK}, ends{-1, -1}},
		{stepped{[]int{3, 1, 0, 0, 0}, ends{-5000, 5000}, ends{-3000, -3000}, api.OK}, ends{1, 1}},
		{stepped{[]int{-3, -1, 0, 0, 0}, ends{-5000, 5000}, ends{-3000, -3000}, api.OK}, ends{-1, -1}},
		{stepped{[]int{-1, 0, 1}, ends{500, 1500}, ends{1000, 1000}, api.OK}, ends{1, 3}},
		{stepped{[]int{1, 0, -1}, ends{-1500, -500}, ends{-1000, -1000}, api.OK}, ends{1, 3}},
		// It begins at 0.
		{stepped{[]int{-1000, 0, 1000}, ends{0, 2000}, ends{0, 0}, api.ErrZero}, ends{0, 4000}},
		{stepped{[]int{1000, 0, -2000}, ends{-2000, 0}, ends{0, 0}, api.ErrZero}, ends{0, 8000}},
		{stepped{[]int{0, 0, 0, 1000}, ends{0, 1000}, ends{0, 0}, api.ErrZero}, ends{0, 3000}},
		{stepped{[]int{2000, -3000, 1000}, ends{1500, 2000}, ends{0, 0}, api.ErrZero}, ends{0, 1000}},
		{stepped{[]int{-1000, 0, 0, 0, 1000}, ends{0, 1500}, ends{0, 0}, api.ErrZero}, ends{0, 13500}},
		// It ends at 0.
		{stepped{[]int{-1000, 0, 1000}, ends{-2000, 0}, ends{0, 0}, api.ErrZero}, ends{-4000, 0}},
		{stepped{[]int{1000, 0, -1000}, ends{0, 2000}, ends{0, 0}, api.ErrZero}, ends{-4000, 0}},
		{stepped{[]int{0, 0, 0, -1000}, ends{0, 1000}, ends{0, 0}, api.ErrZero}, ends{-3000, 0}},
		{stepped{[]int{2000, -3000, 1000}, ends{0, 1500}, ends{0, 0}, api.ErrZero}, ends{-3000, 0}},
		{stepped{[]int{1000, 0, 0, 0, -1000}, ends{0, 1500}, ends{0, 0}, api.ErrZero}, ends{-13500, 0}},
		// It has 0 between.
		{stepped{[]int{-1000, 0, 1000}, ends{-1, 2000}, ends{0, 0}, api.ErrZero}, ends{-2, 4000}},
		{stepped{[]int{-1000, 0, 1000}, ends{-2000, 1}, ends{0, 0}, api.ErrZero}, ends{-4000, 2}},
		{stepped{[]int{2000, -3000, 1000}, ends{500, 1501}, ends{0, 0}, api.ErrZero}, ends{-2000, 2}},
		{stepped{[]int{2000, -3000, 1000}, ends{1499, 3000}, ends{0, 0}, api.ErrZero}, ends{-2, 3000}},
		{stepped{[]int{0, 3000, -3000, 1000}, ends{0, 1000}, ends{0, 0}, api.ErrZero}, ends{-3000, 3000}},
		{stepped{[]int{0, 0, 0, 0, 1000}, ends{-1000, 1000}, ends{0, 0}, api.ErrZero}, ends{-4000, 4000}},
		// It begins, or ends, at 0 by rounding alone.
		{stepped{[]int{0, 0, 1}, ends{1, 499}, ends{0, 0}, api.ErrZero}, ends{0, 1}},
		{stepped{[]int{-1, 0, 1}, ends{1, 1500}, ends{0, 0}, api.ErrZero}, ends{0, 3}},
		{stepped{[]int{-1, 0, -1}, ends{-1500, -499}, ends{0, 0}, api.ErrZero}, ends{0, 3}},
		{stepped{[]int{-1, 0, 1}, ends{-1500, -499}, ends{0, 0}, api.ErrZero}, ends{-3, 0}},
		// It is 0 everywhere.
		{stepped{[]int{0}, ends{-1000, 1000}, ends{0, 0}, api.ErrZero}, ends{0, 0}},
		{stepped{[]int{7000}, ends{-1000, 1000}, ends{0, 0}, api.ErrZero}, ends{0, 0}},
		{stepped{[]int{-7000}, ends{most, most}, ends{0, 0}, api.ErrZero}, ends{0, 0}},
		{stepped{[]int{0, 0}, ends{1000, 2000}, ends{0, 0}, api.ErrZero}, ends{0, 0}},
		{stepped{[]int{5, 0, 0}, ends{-2000, -1000}, ends{0, 0}, api.ErrZero}, ends{0, 0}},
		{stepped{[]int{5, 0, 0, 0}, ends{-2000, 1000}, ends{0, 0}, api.ErrZero}, ends{0, 0}},
		{stepped{[]int{0, 0, 0, 0, 0}, ends{7, 7}, ends{0, 0}, api.ErrZero}, ends{0, 0}},
		{stepped{[]int{0, 0, 1000}, ends{0, 0}, ends{0, 0}, api.ErrZero}, ends{0, 0}},
		{stepped{[]int{1000, -2000, 1000}, ends{1000, 1000}, ends{0, 0}, api.ErrZero}, ends{0, 0}},
	} {
		if slope, _ := center.Slope(r.p, r.x.span()); slope != r.slope.span() {
			t.Errorf("the slope of %v over %v is %v, want %v", r.p, r.x, slope, r.slope)
		}
		checkStepped(t, []stepped{r.stepped})
	}
}

// TestMeet asks where what is told ahead of the Meet has with x one number alone, at either end of it, all of it, some, and just nothing.
func TestMeet(t *testing.T) {
	checkStepped(t, []stepped{
		// Lo alone.
		{[]int{1, 399}, ends{-1, 3}, ends{-1, -1}, api.OK},
		{[]int{16, 2569, -2388}, ends{-6, -5}, ends{-6, -6}, api.OK},
		{[]int{35, 904, -401, -323}, ends{-37, -35}, ends{-37, -37}, api.OK},
		{[]int{38, 500, 500, 0, -700}, ends{-82, -78}, ends{-82, -82}, api.OK},
		{[]int{-5, -800}, ends{-6, -3}, ends{-6, -6}, api.OK},
		{[]int{-1, -8, 8}, ends{-35, -34}, ends{-35, -35}, api.OK},
		{[]int{-32, -440, -532, -666}, ends{-79, -78}, ends{-79, -79}, api.OK},
		{[]int{-1, -17, 598, 612, 948}, ends{-6, -5}, ends{-6, -6}, api.OK},
		// Hi alone.
		{[]int{-45, 1564}, ends{-83, 28}, ends{28, 28}, api.OK},
		{[]int{800, -200, -800}, ends{-2501, -1472}, ends{-1472, -1472}, api.OK},
		{[]int{-100, -100, -200, 400}, ends{-2974, -1845}, ends{-1845, -1845}, api.OK},
		{[]int{-16, 870, 923, -186, 285}, ends{-11, 17}, ends{17, 17}, api.OK},
		{[]int{-225, -84}, ends{-2708, -2687}, ends{-2687, -2687}, api.OK},
		{[]int{3, -100, 200}, ends{7, 26}, ends{26, 26}, api.OK},
		{[]int{2, -71, 279, -181}, ends{-5, 21}, ends{21, 21}, api.OK},
		{[]int{7, -818, 847, 445, -485}, ends{-5, 8}, ends{8, 8}, api.OK},
		// Just nothing: it ends one below Lo.
		{[]int{233, 91}, ends{-2549, -2530}, ends{0, 0}, api.ErrNone},
		{[]int{300, 1000, 900}, ends{-48, 560}, ends{0, 0}, api.ErrNone},
		{[]int{11, 200, 0, 300}, ends{-50, -44}, ends{0, 0}, api.ErrNone},
		{[]int{1, 100, -300, -100, 300}, ends{-4, 13}, ends{0, 0}, api.ErrNone},
		{[]int{-61, -918}, ends{-64, 98}, ends{0, 0}, api.ErrNone},
		{[]int{-1736, -406, 1365}, ends{-968, -551}, ends{0, 0}, api.ErrNone},
		{[]int{-12, -397, 567, -126}, ends{-25, 48}, ends{0, 0}, api.ErrNone},
		{[]int{-1, -400, 100, -200, -600}, ends{-1, 1}, ends{0, 0}, api.ErrNone},
		// Just nothing: it begins one above Hi.
		{[]int{-150, 1924}, ends{-17, 76}, ends{0, 0}, api.ErrNone},
		{[]int{-300, 100, -500}, ends{-1547, -456}, ends{0, 0}, api.ErrNone},
		{[]int{-3, 685, 836, 644}, ends{-93, 0}, ends{0, 0}, api.ErrNone},
		{[]int{2357, 2016, -1582, 1694, -1699}, ends{-2838, -1961}, ends{0, 0}, api.ErrNone},
		{[]int{6, -304}, ends{-31, 18}, ends{0, 0}, api.ErrNone},
		{[]int{2, -83, 209}, ends{-2, 17}, ends{0, 0}, api.ErrNone},
		{[]int{68, -1390, 1292, 2968}, ends{-34, 44}, ends{0, 0}, api.ErrNone},
		{[]int{89, 1, 3, -3, -2}, ends{2363, 2373}, ends{0, 0}, api.ErrNone},
		// All of it: just that, and more, to one side and to both.
		{[]int{2, 1048}, ends{-2, -1}, ends{-2, -1}, api.OK},
		{[]int{292, -774, 405}, ends{1392, 1398}, ends{1392, 1398}, api.OK},
		{[]int{4566, -2126, -3000, -119}, ends{-1714, -1712}, ends{-1714, -1712}, api.OK},
		{[]int{36105, 622, -427, 39, -413}, ends{-2913, -2911}, ends{-2913, -2911}, api.OK},
		{[]int{-7, -1309}, ends{-6, -5}, ends{-6, -5}, api.OK},
		{[]int{5252, -2887, -2807}, ends{946, 948}, ends{946, 948}, api.OK},
		{[]int{-469, 100, 200, -300}, ends{-1057, -1054}, ends{-1057, -1054}, api.OK},
		{[]int{-21, -2784, 931, -326, -1615}, ends{-8, -7}, ends{-8, -7}, api.OK},
		{[]int{79, 864}, ends{-92, -91}, ends{-92, -91}, api.OK},
		{[]int{-2, 96, 470}, ends{13, 14}, ends{13, 14}, api.OK},
		{[]int{55, 818, -110, -522}, ends{-67, -66}, ends{-67, -66}, api.OK},
		{[]int{-1, 25, 126, 594, 783}, ends{23, 24}, ends{23, 24}, api.OK},
		{[]int{-61, -774}, ends{-79, -78}, ends{-79, -78}, api.OK},
		{[]int{-1, -200, 200}, ends{-7, -6}, ends{-7, -6}, api.OK},
		{[]int{-5, -472, 722, 383}, ends{-11, -10}, ends{-11, -10}, api.OK},
		{[]int{-12, 295, -443, -610, 809}, ends{491, 492}, ends{491, 492}, api.OK},
		{[]int{100, -100, -100}, ends{-1621, -1612}, ends{-1621, -1612}, api.OK},
		{[]int{2094, -2706, -1579, 2165}, ends{1031, 1035}, ends{1031, 1035}, api.OK},
		{[]int{290, 10, 10, -4, -10}, ends{-2490, -2484}, ends{-2490, -2484}, api.OK},
		{[]int{-179, 652, -440}, ends{1117, 1124}, ends{1117, 1124}, api.OK},
		{[]int{23, 100, 0, -300}, ends{665, 672}, ends{665, 672}, api.OK},
		{[]int{838, -139, -1560, 1096, -1239}, ends{722, 723}, ends{722, 723}, api.OK},
		{[]int{-2, 0, 1}, ends{1288, 2144}, ends{1288, 2144}, api.OK},
		{[]int{38, 0, -2, 1}, ends{-2788, -2758}, ends{-2788, -2758}, api.OK},
		{[]int{21, 10, -8, 10, -4}, ends{-826, -791}, ends{-826, -791}, api.OK},
		{[]int{-2, 0, 3}, ends{-824, -785}, ends{-824, -785}, api.OK},
		{[]int{3, 3, -2, -1}, ends{1407, 1786}, ends{1407, 1786}, api.OK},
		{[]int{3, -4, 5, 1, -3}, ends{1144, 1170}, ends{1144, 1170}, api.OK},
		// From Lo on just, and from one below it.
		{[]int{-7, 300}, ends{20, 34}, ends{20, 24}, api.OK},
		{[]int{4, 100, -400}, ends{-44, -25}, ends{-44, -35}, api.OK},
		{[]int{-212, -300, 100, 200}, ends{1292, 1299}, ends{1292, 1295}, api.OK},
		{[]int{25, 498, 129, 31, 883}, ends{-52, -42}, ends{-52, -49}, api.OK},
		{[]int{-140, -100}, ends{-1405, -1384}, ends{-1405, -1395}, api.OK},
		{[]int{-19, 0, 300}, ends{-255, -240}, ends{-255, -248}, api.OK},
		{[]int{-11, -200, -300, 100}, ends{-63, -48}, ends{-63, -56}, api.OK},
		{[]int{17, -300, 0, -200, 100}, ends{54, 63}, ends{54, 58}, api.OK},
		{[]int{-1, 100}, ends{7, 26}, ends{7, 16}, api.OK},
		{[]int{-4, 696, -2332}, ends{5, 12}, ends{5, 7}, api.OK},
		{[]int{-2, 200, -300, 300}, ends{6, 16}, ends{6, 11}, api.OK},
		{[]int{9, 57, -493, -318, 483}, ends{-96, -81}, ends{-96, -89}, api.OK},
		{[]int{-192, -100}, ends{-1928, -1909}, ends{-1928, -1919}, api.OK},
		{[]int{-1, -177, -943}, ends{-9, 4}, ends{-9, -3}, api.OK},
		{[]int{1, -100, -100, -100}, ends{5, 24}, ends{5, 14}, api.OK},
		{[]int{-2, -300, 0, -100, -300}, ends{-9, -2}, ends{-9, -6}, api.OK},
		// Up to Hi just, and up to one above it.
		{[]int{25, 300}, ends{-89, -82}, ends{-86, -82}, api.OK},
		{[]int{10, 100, -200}, ends{-98, -82}, ends{-90, -82}, api.OK},
		{[]int{-9, 268, -764, -703}, ends{32, 41}, ends{36, 41}, api.OK},
		{[]int{-7, 770, -223, -412, -888}, ends{-5, 10}, ends{8, 10}, api.OK},
		{[]int{-6, -100}, ends{-78, -58}, ends{-68, -58}, api.OK},
		{[]int{1, -129, -640}, ends{-7, 10}, ends{1, 10}, api.OK},
		{[]int{1, -106, -792, 87}, ends{-2, 18}, ends{8, 18}, api.OK},
		{[]int{-305, 436, 578, 661, 504}, ends{-1261, -1251}, ends{-1256, -1251}, api.OK},
		{[]int{-1, 100}, ends{-5, 13}, ends{4, 13}, api.OK},
		{[]int{-2, 100, -200}, ends{7, 28}, ends{17, 28}, api.OK},
		{[]int{-30, -400, -900, 300}, ends{-309, -301}, ends{-305, -301}, api.OK},
		{[]int{-1, 166, 77, -829, 998}, ends{-3, 9}, ends{3, 9}, api.OK},
		{[]int{-54, -106}, ends{-544, -509}, ends{-518, -509}, api.OK},
		{[]int{-8, -100, 700}, ends{-74, -52}, ends{-59, -52}, api.OK},
		{[]int{-2043, -574, 941, 346}, ends{-1782, -1760}, ends{-1771, -1760}, api.OK},
		{[]int{66, 940, 443, -12, 83}, ends{-1430, -1421}, ends{-1426, -1421}, api.OK},
		// Inside.
		{[]int{-30, 1211}, ends{5, 43}, ends{24, 25}, api.OK},
		{[]int{-1708, 523, 373}, ends{-219, 2942}, ends{1472, 2217}, api.OK},
		{[]int{7, 319, -771, -34}, ends{-32, 1}, ends{-23, -18}, api.OK},
		{[]int{6, 934, -637, 226, 416}, ends{-24, 12}, ends{-8, -6}, api.OK},
		{[]int{-100, -300}, ends{-1977, 376}, ends{-335, -331}, api.OK},
		{[]int{-400, -800, -300}, ends{-1112, -71}, ends{-835, -632}, api.OK},
		{[]int{-12911, -1783, 404, -2556}, ends{-1554, -1514}, ends{-1535, -1533}, api.OK},
		{[]int{695, 1253, -697, -1279, 135}, ends{-892, -859}, ends{-876, -871}, api.OK},
	})
}

func TestOneNumber(t *testing.T) {
	checkChained(t, []chained{
		// Just 0 there.
		{[]int{-1000, 1000}, ends{1000, 1000}, nil, api.OK},
		{[]int{1000, -1000}, ends{1000, 1000}, nil, api.OK},
		{[]int{0, 1}, ends{0, 0}, nil, api.OK},
		{[]int{2000, -3000, 1000}, ends{2000, 2000}, nil, api.OK},
		{[]int{-8000, 0, 0, 1000}, ends{2000, 2000}, nil, api.OK},
		{[]int{0, -6000, 11000, -6000, 1000}, ends{3000, 3000}, nil, api.OK},
		{[]int{-3, 10, 0}, ends{300, 300}, nil, api.OK},
		{[]int{most, -most}, ends{1000, 1000}, nil, api.OK},
		// Just 0, with no slope.
		{[]int{1000, -2000, 1000}, ends{1000, 1000}, nil, api.ErrZero},
		{[]int{0, 0, 1000}, ends{0, 0}, nil, api.ErrZero},
		{[]int{1000, 0, -2000, 0, 1000}, ends{-1000, -1000}, nil, api.ErrZero},
		{[]int{0}, ends{7, 7}, nil, api.ErrZero},
		// A thousandth beside it.
		{[]int{-1000, 1000}, ends{999, 999}, nil, api.ErrNone},
		{[]int{-1000, 1000}, ends{1001, 1001}, nil, api.ErrNone},
		{[]int{1000, -1000}, ends{999, 999}, nil, api.ErrNone},
		{[]int{1000, -1000}, ends{1001, 1001}, nil, api.ErrNone},
		{[]int{2000, -3000, 1000}, ends{1997, 1997}, nil, api.ErrNone},
		{[]int{2000, -3000, 1000}, ends{2002, 2002}, nil, api.ErrNone},
		// Rounded to 0 on one side, or on both.
		{[]int{0, 1}, ends{1, 1}, nil, api.OK},
		{[]int{0, 1}, ends{-1, -1}, nil, api.OK},
		{[]int{0, -1}, ends{1, 1}, nil, api.OK},
		{[]int{0, -1}, ends{-1, -1}, nil, api.OK},
		{[]int{-2, 3}, ends{436, 436}, nil, api.OK},
		{[]int{-2, -3, -1}, ends{-981, -981}, nil, api.OK},
		{[]int{2000, -3000, 1000}, ends{1999, 1999}, nil, api.OK},
		// Far from it.
		{[]int{5}, ends{0, 0}, nil, api.ErrZero},
		{[]int{2000, -3000, 1000}, ends{1500, 1500}, nil, api.ErrZero},
		{[]int{2000, -3000, 1000}, ends{1501, 1501}, nil, api.ErrNone},
		{[]int{1000, 1000, 1000, 1000, 1000}, ends{-5000, -5000}, nil, api.ErrNone},
		{[]int{2000, -3000, 1000}, ends{-3000, -3000}, nil, api.ErrNone},
	})
}

// TestFar asks of spans that end at the least number, or at the greatest one, and of such factors.
func TestFar(t *testing.T) {
	checkStepped(t, []stepped{
		{[]int{0, 1000}, ends{-most, most}, ends{0, 0}, api.OK},
		{[]int{0, -1000}, ends{-most, most}, ends{0, 0}, api.OK},
		{[]int{0, 1000}, ends{-most, most - 1}, ends{0, 0}, api.OK},
		{[]int{0, 1000}, ends{-most + 1, most}, ends{0, 0}, api.OK},
		{[]int{0, 1000}, ends{-most, 0}, ends{0, 0}, api.OK},
		{[]int{0, 1000}, ends{0, most}, ends{0, 0}, api.OK},
		{[]int{0, 1000}, ends{1, most}, ends{0, 0}, api.ErrNone},
		{[]int{0, 1000}, ends{-most, -1}, ends{0, 0}, api.ErrNone},
		{[]int{0, 1}, ends{-most, most}, ends{0, 0}, api.OK},
		{[]int{0, 1000}, ends{most - 2, most}, ends{0, 0}, api.ErrNone},
		{[]int{0, 1000}, ends{-most, -most + 2}, ends{0, 0}, api.ErrNone},
		{[]int{7, 1000}, ends{-most, most}, ends{-7, -7}, api.OK},
		{[]int{999, -1000}, ends{-most, most}, ends{999, 999}, api.OK},
		{[]int{most, -1000}, ends{most - 2, most}, ends{most, most}, api.OK},
		{[]int{most, -1000}, ends{most, most}, ends{most, most}, api.OK},
		{[]int{most, -1000}, ends{most - 1, most - 1}, ends{0, 0}, api.ErrNone},
		{[]int{most, -1000}, ends{0, most}, ends{most, most}, api.OK},
		{[]int{most, 1000}, ends{-most, 0}, ends{-most, -most}, api.OK},
		{[]int{most, 1000}, ends{-most, -most}, ends{-most, -most}, api.OK},
		{[]int{most - 1, 1000}, ends{-most, -most}, ends{0, 0}, api.ErrNone},
		{[]int{most - 1, -1000}, ends{0, most}, ends{most - 1, most - 1}, api.OK},
		{[]int{123456789, -1000}, ends{0, most}, ends{123456789, 123456789}, api.OK},
		{[]int{0, most}, ends{-1000, 1000}, ends{0, 0}, api.OK},
		{[]int{0, -most}, ends{-1000, 1000}, ends{0, 0}, api.OK},
		{[]int{most, -most}, ends{0, 1000}, ends{1000, 1000}, api.OK},
		{[]int{-most, most}, ends{0, 1000}, ends{1000, 1000}, api.OK},
		{[]int{-most, most}, ends{1000, 1000}, ends{1000, 1000}, api.OK},
		{[]int{most, -most}, ends{0, 999}, ends{0, 0}, api.ErrNone},
		// What is by the slope is just what may be.
		{[]int{1000000, 1}, ends{-most, most}, ends{-most, -most}, api.OK},
		{[]int{-1000000, 1}, ends{-most, most}, ends{most, most}, api.OK},
		{[]int{1000000, -1}, ends{-most, most}, ends{most, most}, api.OK},
		{[]int{-1000000, -1}, ends{-most, most}, ends{-most, -most}, api.OK},
		{[]int{most, 1000}, ends{-most, most}, ends{-most, -most}, api.OK},
		{[]int{-most, 1000}, ends{-most, most}, ends{most, most}, api.OK},
		{[]int{most, -1000}, ends{-most, most}, ends{most, most}, api.OK},
		{[]int{-most, -1000}, ends{-most, most}, ends{-most, -most}, api.OK},
		// What is Less that is just what may be.
		{[]int{1000000, 1}, ends{-most, 0}, ends{-most, -most}, api.OK},
		{[]int{-1000000, 1}, ends{0, most}, ends{most, most}, api.OK},
		{[]int{-5000000, 5}, ends{1, most}, ends{most, most}, api.OK},
		{[]int{2000000, 2}, ends{-most, 1}, ends{-most, -most}, api.OK},
		{[]int{64999999, 65}, ends{-most, 95}, ends{-most, -999999983}, api.OK},
		{[]int{998999999, 999}, ends{-most, 5}, ends{-most, -most + 2}, api.OK},
		{[]int{59999999, -60}, ends{66, most}, ends{999999983, most}, api.OK},
		{[]int{-998999999, 999}, ends{4, most}, ends{most - 2, most}, api.OK},
	})
}

// The parts of a Step that can tell what is beyond what may be.
const (
	atMiddle = "Horner at the Middle"
	ofSlope  = "the slope"
	both     = "Horner at the Middle, and the slope"
	bySlope  = "By the slope"
	lessThat = "Less that"
)

// fullAt gives which part of a Step is beyond what may be.
func fullAt(p []int, x api.Span) string {
	middle, _ := power.Middle(x)
	there, errThere := poly.Horner(p, span.Alone(middle))
	slope, errSlope := center.Slope(p, x)
	switch {
	case errThere != nil && errSlope != nil:
		return both
	case errThere != nil:
		return atMiddle
	case errSlope != nil:
		return ofSlope
	}
	away, err := span.By(there, slope)
	if plain.Told(err) == api.ErrFull {
		return bySlope
	}
	if _, err := span.Less(span.Alone(middle), away); err != nil {
		return lessThat
	}
	return "none"
}

// TestFull asks where one alone of what is reckoned is beyond what may be, and where two are.
func TestFull(t *testing.T) {
	for _, r := range []struct {
		stepped
		at string
	}{
		// Horner at the Middle; the slope has no 0 in it.
		{stepped{[]int{1, 1000}, ends{most, most}, ends{0, 0}, api.ErrFull}, atMiddle},
		{stepped{[]int{-1, 1000}, ends{-most, -most}, ends{0, 0}, api.ErrFull}, atMiddle},
		{stepped{[]int{1, -1000}, ends{-most, -most}, ends{0, 0}, api.ErrFull}, atMiddle},
		{stepped{[]int{0, 1001}, ends{most - 2, most}, ends{0, 0}, api.ErrFull}, atMiddle},
		{stepped{[]int{2, 1000}, ends{most - 1, most}, ends{0, 0}, api.ErrFull}, atMiddle},
		{stepped{[]int{-2, 1000}, ends{-most, -most + 1}, ends{0, 0}, api.ErrFull}, atMiddle},
		{stepped{[]int{0, most}, ends{1001, 1001}, ends{0, 0}, api.ErrFull}, atMiddle},
		{stepped{[]int{0, most}, ends{1001, 1002}, ends{0, 0}, api.ErrFull}, atMiddle},
		{stepped{[]int{most, 1}, ends{1, 2}, ends{0, 0}, api.ErrFull}, atMiddle},
		{stepped{[]int{most - 1, 1000}, ends{2, 246}, ends{0, 0}, api.ErrFull}, atMiddle},
		{stepped{[]int{0, 1, 1}, ends{31622777, 31622777}, ends{0, 0}, api.ErrFull}, atMiddle},
		{stepped{[]int{2, 1, 1}, ends{1, most}, ends{0, 0}, api.ErrFull}, atMiddle},
		{stepped{[]int{0, 0, 0, 1000}, ends{100001, 100001}, ends{0, 0}, api.ErrFull}, atMiddle},
		{stepped{[]int{0, 0, 0, 0, 1000}, ends{31623, 31623}, ends{0, 0}, api.ErrFull}, atMiddle},
		{stepped{[]int{0, 0, 0, 0, -1000}, ends{31000, 33000}, ends{0, 0}, api.ErrFull}, atMiddle},
		// The same, where it is so with a power on the way alone.
		{stepped{[]int{-half, 1000, 1}, ends{40000000, 40000000}, ends{0, 0}, api.ErrFull}, atMiddle},
		// The slope: a factor of it, at first, and on the way.
		{stepped{[]int{0, 0, half + 1}, ends{0, 0}, ends{0, 0}, api.ErrFull}, ofSlope},
		{stepped{[]int{0, 0, -half - 1}, ends{1, 2}, ends{0, 0}, api.ErrFull}, ofSlope},
		{stepped{[]int{0, 1, 0, 333333334}, ends{-1, 1}, ends{0, 0}, api.ErrFull}, ofSlope},
		{stepped{[]int{0, 0, 0, 0, -250000001}, ends{0, 0}, ends{0, 0}, api.ErrFull}, ofSlope},
		{stepped{[]int{most, most, most, most, most}, ends{0, 0}, ends{0, 0}, api.ErrFull}, ofSlope},
		{stepped{[]int{0, 0, half}, ends{-1000, 1001}, ends{0, 0}, api.ErrFull}, ofSlope},
		{stepped{[]int{0, 1, half}, ends{0, 1000}, ends{0, 0}, api.ErrFull}, ofSlope},
		{stepped{[]int{0, -1, half}, ends{-1000, 0}, ends{0, 0}, api.ErrFull}, ofSlope},
		{stepped{[]int{0, 0, 0, 1000}, ends{-600000, 600000}, ends{0, 0}, api.ErrFull}, ofSlope},
		{stepped{[]int{0, most, 0, 0, 1}, ends{-1000, 1001}, ends{0, 0}, api.ErrFull}, ofSlope},
		{stepped{[]int{0, 0, 0, 0, 1000}, ends{-63000, 63000}, ends{0, 0}, api.ErrFull}, ofSlope},
		// Both.
		{stepped{[]int{0, 0, most}, ends{2000, 2000}, ends{0, 0}, api.ErrFull}, both},
		{stepped{[]int{0, 0, 0, 1000}, ends{600000, 700000}, ends{0, 0}, api.ErrFull}, both},
		{stepped{[]int{most, most, most, most, most}, ends{1000, 1000}, ends{0, 0}, api.ErrFull}, both},
		// By the slope.
		{stepped{[]int{1000001, 1}, ends{-most, most}, ends{0, 0}, api.ErrFull}, bySlope},
		{stepped{[]int{-1000001, 1}, ends{-most, most}, ends{0, 0}, api.ErrFull}, bySlope},
		{stepped{[]int{1000001, -1}, ends{-most, most}, ends{0, 0}, api.ErrFull}, bySlope},
		{stepped{[]int{-1000001, -1}, ends{-most, most}, ends{0, 0}, api.ErrFull}, bySlope},
		{stepped{[]int{1000001, 1}, ends{0, 0}, ends{0, 0}, api.ErrFull}, bySlope},
		{stepped{[]int{most, 999}, ends{0, 0}, ends{0, 0}, api.ErrFull}, bySlope},
		{stepped{[]int{most, 999}, ends{-most, most}, ends{0, 0}, api.ErrFull}, bySlope},
		{stepped{[]int{-most, -999}, ends{-most, most}, ends{0, 0}, api.ErrFull}, bySlope},
		{stepped{[]int{999999000, 999}, ends{2, 246}, ends{0, 0}, api.ErrFull}, bySlope},
		{stepped{[]int{209600372, 7}, ends{5, 9}, ends{0, 0}, api.ErrFull}, bySlope},
		{stepped{[]int{1000001, 1, 1}, ends{0, 1000}, ends{0, 0}, api.ErrFull}, bySlope},
		{stepped{[]int{5000001, 5, 0, 1}, ends{0, 999}, ends{0, 0}, api.ErrFull}, bySlope},
		{stepped{[]int{-671052391, 4, -10, 3, 2}, ends{-6, 4}, ends{0, 0}, api.ErrFull}, bySlope},
		// Less that.
		{stepped{[]int{1000000, 1}, ends{-most, -1}, ends{0, 0}, api.ErrFull}, lessThat},
		{stepped{[]int{-1000000, 1}, ends{3, most}, ends{0, 0}, api.ErrFull}, lessThat},
		{stepped{[]int{-5000000, 5}, ends{2, most}, ends{0, 0}, api.ErrFull}, lessThat},
		{stepped{[]int{5000000, 5}, ends{-most, -2}, ends{0, 0}, api.ErrFull}, lessThat},
		{stepped{[]int{2000000, -2}, ends{2, most}, ends{0, 0}, api.ErrFull}, lessThat},
		{stepped{[]int{-2000000, -2}, ends{-most, -1}, ends{0, 0}, api.ErrFull}, lessThat},
		{stepped{[]int{1000000, 1}, ends{-3, -2}, ends{0, 0}, api.ErrFull}, lessThat},
		{stepped{[]int{-1000000, 1}, ends{1, 1}, ends{0, 0}, api.ErrFull}, lessThat},
		{stepped{[]int{506447071, 420}, ends{-most, 6}, ends{0, 0}, api.ErrFull}, lessThat},
		{stepped{[]int{353747318, -243}, ends{8, most}, ends{0, 0}, api.ErrFull}, lessThat},
	} {
		if at := fullAt(r.p, r.x.span()); at != r.at {
			t.Errorf("of Step(%v, %v) %s is beyond what may be, want %s", r.p, r.x, at, r.at)
		}
		checkStepped(t, []stepped{r.stepped})
	}
}

// TestFullFirst asks where what is beyond what may be is told, though 0 is in the slope.
func TestFullFirst(t *testing.T) {
	checkStepped(t, []stepped{
		// Horner at the Middle.
		{[]int{0, 0, 1}, ends{-1, most}, ends{0, 0}, api.ErrFull},
		{[]int{0, 0, 1}, ends{-most, 1}, ends{0, 0}, api.ErrFull},
		{[]int{0, 0, 0, 1000}, ends{-1, 300000}, ends{0, 0}, api.ErrFull},
		{[]int{most, 0, 1}, ends{0, 2}, ends{0, 0}, api.ErrFull},
		{[]int{-most, 0, -1}, ends{-2, 0}, ends{0, 0}, api.ErrFull},
		{[]int{0, 0, 1}, ends{0, most}, ends{0, 0}, api.ErrFull},
		// The slope, as far as it can be told what is in it.
		{[]int{0, 0, half}, ends{-1001, 1001}, ends{0, 0}, api.ErrFull},
		{[]int{0, 0, half + 1}, ends{-1, 1}, ends{0, 0}, api.ErrFull},
	})
}

// TestZeroFirst asks where 0 is in the slope, and what is at the Middle would be, by the slope's other end, beyond what may be: then nothing is by it.
func TestZeroFirst(t *testing.T) {
	checkStepped(t, []stepped{
		{[]int{most}, ends{-most, most}, ends{0, 0}, api.ErrZero},
		{[]int{-most}, ends{0, 0}, ends{0, 0}, api.ErrZero},
		{[]int{most, 0}, ends{-7, 7}, ends{0, 0}, api.ErrZero},
		{[]int{half, 0, 1}, ends{0, 1000}, ends{0, 0}, api.ErrZero},
		{[]int{-half, 0, 1}, ends{-1000, 0}, ends{0, 0}, api.ErrZero},
		{[]int{half, 0, -1}, ends{-1000, 1000}, ends{0, 0}, api.ErrZero},
		{[]int{half, 0, 0, 0, 1}, ends{0, 1000}, ends{0, 0}, api.ErrZero},
	})
}

// TestLines asks of lines: with nothing to be rounded one Step comes to the root, wherever that is in the span, and another one changes nothing.
func TestLines(t *testing.T) {
	checkChained(t, []chained{
		{[]int{-1000, 1000}, ends{-4000, 3000}, []ends{{1000, 1000}}, api.OK},
		{[]int{-1000, 1000}, ends{1000, 3000}, []ends{{1000, 1000}}, api.OK},
		{[]int{-1000, 1000}, ends{-2000, 1000}, []ends{{1000, 1000}}, api.OK},
		{[]int{2500, -1000}, ends{2000, 9000}, []ends{{2500, 2500}}, api.OK},
		{[]int{1234, 1000}, ends{-3000, -1000}, []ends{{-1234, -1234}}, api.OK},
		{[]int{1, -1000}, ends{-5000, 5000}, []ends{{1, 1}}, api.OK},
		{[]int{0, 1000}, ends{-1, 1}, []ends{{0, 0}}, api.OK},
		{[]int{0, 1000}, ends{-1, 0}, []ends{{0, 0}}, api.OK},
		{[]int{0, 1000}, ends{0, 1}, []ends{{0, 0}}, api.OK},
		{[]int{1000, 2000}, ends{-1500, 2500}, []ends{{-500, -500}}, api.OK},
		{[]int{3000, -2000}, ends{1000, 3000}, []ends{{1500, 1500}}, api.OK},
		{[]int{-7000, 7000}, ends{-100000, 100000}, []ends{{1000, 1000}}, api.OK},
		{[]int{most, -1000}, ends{-most, most}, []ends{{most, most}}, api.OK},
		{[]int{-most, 1000}, ends{-most, most}, []ends{{most, most}}, api.OK},
		// The root is between two numbers.
		{[]int{1, 2000}, ends{-1000, 1000}, []ends{{-1, 0}}, api.OK},
		{[]int{1000, 3000}, ends{-3000, 2000}, []ends{{-334, -333}}, api.OK},
		{[]int{-1000, -3000}, ends{-3000, 2000}, []ends{{-334, -333}}, api.OK},
		{[]int{-1, 7000}, ends{-10, 10}, []ends{{0, 1}}, api.OK},
		{[]int{-5000, 7000}, ends{-3000, 3000}, []ends{{714, 715}}, api.OK},
		{[]int{-5000, -7000}, ends{-3000, 3000}, []ends{{-715, -714}}, api.OK},
		// It is between two numbers of which the span has one: that is told, as what is rounded outward has it.
		{[]int{1000, 3000}, ends{-333, 2000}, []ends{{-333, -333}}, api.OK},
		{[]int{1000, 3000}, ends{-2000, -334}, []ends{{-334, -334}}, api.OK},
		{[]int{1, 2000}, ends{0, 1000}, []ends{{0, 0}}, api.OK},
		// None is in the span.
		{[]int{-1000, 1000}, ends{-4000, 999}, nil, api.ErrNone},
		{[]int{-1000, 1000}, ends{1001, 3000}, nil, api.ErrNone},
		{[]int{1000, 3000}, ends{-332, 2000}, nil, api.ErrNone},
		{[]int{1000, 3000}, ends{-2000, -335}, nil, api.ErrNone},
		{[]int{1, 2000}, ends{1, 1000}, nil, api.ErrNone},
	})
}

// TestNearer asks of such as come nearer Step by Step, until nothing changes any more.
func TestNearer(t *testing.T) {
	checkChained(t, []chained{
		// Lines, where there is something to be rounded.
		{[]int{1, 3}, ends{-1500, 2500}, []ends{{-500, -166}, {-500, -333}, {-417, -333}, {-375, -333}, {-354, -333}, {-344, -333}, {-339, -333}, {-336, -333}, {-335, -333}, {-334, -333}}, api.OK},
		{[]int{-2, 3}, ends{-293, 1089}, []ends{{398, 732}, {565, 732}, {648, 732}, {648, 690}, {648, 669}, {658, 669}, {663, 669}, {666, 669}, {666, 667}}, api.OK},
		{[]int{-3, -3}, ends{-most, 748}, []ends{{-1293, -959}, {-1126, -959}, {-1043, -959}, {-1001, -959}, {-1001, -980}, {-1001, -991}, {-1001, -996}, {-1001, -999}, {-1000, -1000}}, api.OK},
		{[]int{700, -999}, ends{-3000, 2000}, []ends{{700, 702}, {700, 701}}, api.OK},
		// Three factors.
		{[]int{-1000, 0, 1000}, ends{4, 2435}, []ends{{4, 1120}, {867, 1120}, {998, 1002}, {1000, 1000}}, api.OK},
		{[]int{-2000, 0, 1000}, ends{1000, 2000}, []ends{{1375, 1438}, {1413, 1415}, {1414, 1415}}, api.OK},
		{[]int{-2000, 0, 1000}, ends{-2000, -1000}, []ends{{-1438, -1375}, {-1415, -1413}, {-1415, -1414}}, api.OK},
		{[]int{2000, -3000, 1000}, ends{2000, 3000}, []ends{{2000, 2250}, {2000, 2032}, {2000, 2001}, {2000, 2000}}, api.OK},
		{[]int{2000, -3000, 1000}, ends{0, 1000}, []ends{{750, 1000}, {968, 1000}, {999, 1000}}, api.OK},
		{[]int{2000, -3000, 1000}, ends{900, 1400}, []ends{{900, 1045}, {995, 1004}, {999, 1002}, {1000, 1000}}, api.OK},
		{[]int{-2000, 3000, -1000}, ends{1600, 2200}, []ends{{1964, 2200}, {1986, 2020}, {1998, 2001}, {1999, 2001}, {2000, 2000}}, api.OK},
		{[]int{500, -1900, 100}, ends{-1500, 2500}, []ends{{196, 307}, {266, 268}, {266, 267}}, api.OK},
		{[]int{-3, 1, 0}, ends{-63918, 46632}, []ends{{2357, 3357}, {2857, 3357}, {2857, 3107}, {2982, 3107}, {2982, 3044}, {2982, 3013}, {2997, 3013}, {2997, 3005}, {2997, 3001}, {2999, 3001}, {3000, 3000}}, api.OK},
		{[]int{-half, 0, 1000}, ends{1000, 999999}, []ends{{625249, 999999}, {684388, 732446}, {707062, 707151}, {707106, 707107}}, api.OK},
		// Four.
		{[]int{0, 2000, 3000, 1000}, ends{-2, 6}, []ends{{-1, 1}, {0, 0}}, api.OK},
		{[]int{0, 2000, -3000, 1000}, ends{2000, 3000}, []ends{{2000, 2330}, {2000, 2069}, {2000, 2005}, {2000, 2001}, {2000, 2000}}, api.OK},
		{[]int{0, 0, 2000, 1000}, ends{-3000, -2000}, []ends{{-2292, -2000}, {-2045, -2000}, {-2002, -2000}, {-2001, -2000}}, api.OK},
		{[]int{-8000, 0, 0, 1000}, ends{1600, 2200}, []ends{{1978, 2049}, {1999, 2001}, {2000, 2000}}, api.OK},
		{[]int{300, 4000, -100, 200}, ends{-1500, 2500}, []ends{{-1340, 183}, {-189, -31}, {-76, -74}, {-75, -74}}, api.OK},
		{[]int{-27000, 0, 0, 1000}, ends{100, 5000}, []ends{{2688, 5000}, {2688, 3447}, {2981, 3016}, {2999, 3001}, {3000, 3000}}, api.OK},
		{[]int{-2, 1, 1, 3}, ends{497, 67273}, []ends{{497, 31022}, {497, 14396}, {497, 6775}, {497, 3302}, {497, 1713}, {497, 1012}, {497, 754}, {625, 754}, {625, 689}, {657, 689}, {657, 673}, {665, 673}, {665, 669}, {665, 667}, {666, 667}}, api.OK},
		// Five.
		{[]int{4000, 0, -5000, 0, 1000}, ends{2000, 3000}, []ends{{2000, 2349}, {2000, 2079}, {2000, 2007}, {2000, 2001}, {2000, 2000}}, api.OK},
		{[]int{4000, 0, -5000, 0, 1000}, ends{-1300, -900}, []ends{{-1034, -900}, {-1007, -995}, {-1001, -999}, {-1000, -1000}}, api.OK},
		{[]int{777, -333, 0, 1111, -999}, ends{900, 1400}, []ends{{1220, 1400}, {1269, 1290}, {1279, 1281}}, api.OK},
		{[]int{-1000, -90000, 3000, -2000, 1000}, ends{-1500, 2500}, []ends{{-1015, 198}, {-67, 12}, {-12, -11}}, api.OK},
		{[]int{-3000, 1500, 700, 0, 300}, ends{900, 1400}, []ends{{1101, 1125}, {1113, 1115}, {1113, 1114}}, api.OK},
		{[]int{7, -9, -6, -2, -9}, ends{-39, 614}, []ends{{394, 614}, {441, 567}, {448, 560}}, api.OK},
	})
}

// TestUnchanged asks where the first Step changes nothing already.
func TestUnchanged(t *testing.T) {
	checkChained(t, []chained{
		{[]int{117, 1510}, ends{-78, -77}, nil, api.OK},
		{[]int{2098, -729, -994}, ends{-1866, -1864}, nil, api.OK},
		{[]int{-10, 1638, -586, -2927}, ends{6, 7}, nil, api.OK},
		{[]int{80, 1341, 1750, 1250, -1679}, ends{-65, -64}, nil, api.OK},
		{[]int{-140, -1492}, ends{-94, -93}, nil, api.OK},
		{[]int{970, -870, -2627}, ends{464, 465}, nil, api.OK},
		{[]int{-19, -2507, 399, -1875}, ends{-8, -7}, nil, api.OK},
		{[]int{-1717, -401, 1493, -2734, -964}, ends{-700, -699}, nil, api.OK},
		{[]int{-3, 1, 3}, ends{69, 1620}, nil, api.OK},
		{[]int{28, 1, 2, 3}, ends{-2242, -2208}, nil, api.OK},
		{[]int{11, 7, 9, 6, 1}, ends{-1627, -1609}, nil, api.OK},
		{[]int{4, 1, -8}, ends{746, 758}, nil, api.OK},
		{[]int{-9, -10, -3, -2}, ends{-1126, -1115}, nil, api.OK},
		{[]int{1, -1, -3, 1, 2}, ends{-1136, -1135}, nil, api.OK},
		{[]int{0, 9}, ends{-5, -4}, nil, api.OK},
		{[]int{0, 4, 2}, ends{-67, -66}, nil, api.OK},
		{[]int{0, 2, -1, 3}, ends{-6, -5}, nil, api.OK},
		{[]int{-1, 2, -8, -9, 5}, ends{7, 8}, nil, api.OK},
		{[]int{1, -7}, ends{48, 49}, nil, api.OK},
		{[]int{-758, -300, 100}, ends{-1639, -1634}, nil, api.OK},
		{[]int{-23, -400, -900, 300}, ends{-72, -71}, nil, api.OK},
		{[]int{-2, -374, 166, 315, 810}, ends{-7, -6}, nil, api.OK},
		{[]int{101, 600, 200}, ends{-180, -177}, nil, api.OK},
		{[]int{2094, -2706, -1579, 2165}, ends{1031, 1035}, nil, api.OK},
		{[]int{160206, 1405, -112, 266, -2034}, ends{-2923, -2922}, nil, api.OK},
		{[]int{-3442, 1051, 2031}, ends{-1586, -1585}, nil, api.OK},
		{[]int{-903, -279, 1789, 875}, ends{-788, -787}, nil, api.OK},
		{[]int{148, 800, 800, -800, -500}, ends{-443, -432}, nil, api.OK},
		{[]int{0, 1000}, ends{0, 0}, nil, api.OK},
		{[]int{2000, -3000, 1000}, ends{2000, 2000}, nil, api.OK},
		{[]int{0, 1}, ends{-1, 0}, nil, api.OK},
		{[]int{most, -1000}, ends{most, most}, nil, api.OK},
		{[]int{-1000, 1000}, ends{1000, 1000}, nil, api.OK},
	})
}

// TestMaxSteps asks where as many Steps as may be gone change something, one fewer, one more, and some more: then it would go on beyond them.
func TestMaxSteps(t *testing.T) {
	long := []chained{
		{[]int{-5, -5, 1}, ends{3110, 57094}, []ends{{3110, 23312}, {3110, 10831}, {3110, 6912}, {4011, 6912}, {5127, 6912}, {5127, 5908}, {5317, 5908}, {5412, 5908}, {5460, 5908}, {5484, 5908}, {5496, 5908}, {5502, 5908}, {5538, 5908}, {5556, 5908}, {5565, 5908}, {5569, 5908}, {5571, 5908}, {5572, 5908}, {5573, 5908}}, api.OK},
		{[]int{4, -9, -10, -1}, ends{-90893, -8251}, []ends{{-45388, -8251}, {-24612, -8251}, {-15117, -8251}, {-11096, -8251}, {-9817, -8251}, {-9177, -8251}, {-9177, -8404}, {-9177, -8536}, {-9177, -8602}, {-9177, -8640}, {-9177, -8659}, {-9177, -8668}, {-9177, -8709}, {-9177, -8729}, {-9177, -8739}, {-9177, -8744}, {-9177, -8747}, {-9177, -8748}, {-9177, -8749}}, api.OK},
		{[]int{-2, -5, -9, 1}, ends{8391, 81038}, []ends{{8391, 40907}, {8391, 22559}, {8391, 14279}, {8391, 10796}, {8725, 10537}, {8896, 10428}, {8949, 10428}, {8975, 10428}, {8988, 10428}, {8995, 10428}, {8998, 10428}, {9000, 10428}, {9095, 10386}, {9121, 10386}, {9142, 10386}, {9153, 10386}, {9158, 10386}, {9161, 10386}, {9162, 10386}, {9163, 10386}}, api.OK},
		{[]int{1, 8, -7, -8, 2}, ends{4030, 70815}, []ends{{4030, 36156}, {4030, 19355}, {4030, 11220}, {4030, 7291}, {4030, 5475}, {4030, 5165}, {4030, 4935}, {4469, 4935}, {4469, 4898}, {4469, 4879}, {4469, 4870}, {4469, 4865}, {4469, 4863}, {4469, 4831}, {4469, 4815}, {4469, 4807}, {4469, 4803}, {4469, 4801}, {4469, 4800}, {4469, 4799}}, api.OK},
		{[]int{7, 2, -4, -1}, ends{-84719, -4341}, []ends{{-40744, -4341}, {-20603, -4341}, {-11378, -4341}, {-7298, -4341}, {-5583, -4341}, {-5120, -4341}, {-4889, -4341}, {-4773, -4341}, {-4715, -4341}, {-4686, -4341}, {-4672, -4341}, {-4665, -4341}, {-4661, -4341}, {-4659, -4341}, {-4606, -4341}, {-4580, -4341}, {-4567, -4341}, {-4560, -4341}, {-4557, -4341}, {-4555, -4341}, {-4554, -4341}}, api.OK},
		{[]int{10, 10, -10, -1}, ends{-71847, -7829}, []ends{{-36597, -7829}, {-20479, -7829}, {-13378, -7829}, {-13378, -8988}, {-11106, -8988}, {-11106, -9558}, {-11106, -10013}, {-11106, -10326}, {-11106, -10490}, {-11106, -10598}, {-11106, -10653}, {-11106, -10683}, {-11106, -10717}, {-11106, -10734}, {-11106, -10742}, {-11106, -10746}, {-11106, -10748}, {-11106, -10749}, {-11106, -10750}, {-11106, -10751}, {-11106, -10752}}, api.OK},
		{[]int{2, -7, 7, 4, -1}, ends{-47668, -1674}, []ends{{-23769, -1674}, {-12202, -1674}, {-6610, -1674}, {-3886, -1674}, {-2648, -1674}, {-2128, -1674}, {-2128, -1690}, {-2128, -1709}, {-2128, -1719}, {-2128, -1724}, {-2128, -1744}, {-2128, -1754}, {-2128, -1787}, {-2128, -1804}, {-2128, -1828}, {-2128, -1840}, {-2128, -1846}, {-2128, -1857}, {-2128, -1863}, {-2128, -1871}, {-1933, -1875}}, api.OK},
		{[]int{-8, 8, 9, 10, -8}, ends{1742, 2366}, []ends{{1742, 2040}, {1748, 2040}, {1751, 2040}, {1766, 2040}, {1774, 2040}, {1785, 2040}, {1800, 2040}, {1811, 2040}, {1816, 2040}, {1828, 2040}, {1837, 2040}, {1841, 2040}, {1843, 2040}, {1844, 2040}, {1852, 2040}, {1856, 2040}, {1858, 2040}, {1861, 2040}, {1862, 2040}, {1863, 2040}, {1866, 2040}, {1868, 2040}, {1869, 2040}}, api.OK},
		{[]int{-6, -3, -2, -7, 8}, ends{1245, 31719}, []ends{{1245, 15929}, {1245, 8278}, {1245, 4566}, {1245, 2770}, {1245, 1906}, {1245, 1575}, {1252, 1575}, {1263, 1575}, {1269, 1575}, {1285, 1575}, {1299, 1575}, {1312, 1575}, {1323, 1575}, {1337, 1575}, {1352, 1575}, {1363, 1575}, {1372, 1575}, {1379, 1575}, {1388, 1575}, {1392, 1575}, {1397, 1575}, {1402, 1575}, {1404, 1575}, {1405, 1575}, {1406, 1575}}, api.OK},
	}
	checkChained(t, long)
	for _, c := range long {
		x := c.x.span()
		checkRun(t, c.p, x, api.MaxSteps+1, api.Span{}, api.ErrRange)
		checkRun(t, c.p, x, len(c.near)+api.MaxSteps, api.Span{}, api.ErrRange)
		// What is left of them can be gone from there.
		if left := len(c.near) - api.MaxSteps; left > 0 {
			checkRun(t, c.p, c.near[api.MaxSteps-1].span(), left, c.near[len(c.near)-1].span(), api.OK)
		}
	}
}

// TestErrorBehind asks where a Step comes to an error behind others that did not.
func TestErrorBehind(t *testing.T) {
	checkChained(t, []chained{
		// Nothing is in both.
		{[]int{7, -667}, ends{4, 8}, []ends{{8, 8}}, api.ErrNone},
		{[]int{3, 1, 9}, ends{19, 715}, []ends{{19, 82}}, api.ErrNone},
		{[]int{-1895, 2000, 640, 630}, ends{-3734, -998}, []ends{{-1884, -998}}, api.ErrNone},
		{[]int{1000, 3000, 3000, 1000}, ends{0, 1000}, []ends{{0, 219}}, api.ErrNone},
		{[]int{777, -333, 0, 1111, -999}, ends{-3000, -2000}, []ends{{-2102, -2000}}, api.ErrNone},
		{[]int{1, 2, 6}, ends{248, 2430}, []ends{{248, 902}, {248, 345}}, api.ErrNone},
		{[]int{-96633, 9614, 98503}, ends{-95269, -8047}, []ends{{-37678, -8047}, {-15961, -8047}}, api.ErrNone},
		{[]int{-4, 9, -3, -7}, ends{816, 2851}, []ends{{816, 1633}, {816, 1087}, {816, 821}}, api.ErrNone},
		{[]int{-377, -304, 2256}, ends{-75948, -4152}, []ends{{-29466, -4152}, {-11991, -4152}, {-5333, -4152}}, api.ErrNone},
		{[]int{-2, -2, 1}, ends{-2342221, -987}, []ends{{-878392, -987}, {-329457, -987}, {-123483, -987}, {-46248, -987}, {-17429, -987}, {-6533, -987}, {-2760, -987}, {-1499, -987}, {-1043, -987}}, api.ErrNone},
		{[]int{23, -11, 31, 13, -3}, ends{6057, 47970}, []ends{{6057, 25945}, {6057, 15257}, {6057, 10101}, {6057, 7598}, {6057, 6522}, {6057, 6254}, {6057, 6155}, {6057, 6105}, {6057, 6080}, {6057, 6067}, {6057, 6061}, {6057, 6058}}, api.ErrNone},
	})
	for _, r := range []struct {
		chained
		at string
	}{
		// Horner at the Middle.
		{chained{[]int{916906061, -88, -173}, ends{330039, 3170012}, []ends{{2102763, 3170012}}, api.ErrFull}, atMiddle},
		{chained{[]int{926125358, 413231944, -89333641}, ends{-2369, 2023}, []ends{{-2369, -1191}}, api.ErrFull}, atMiddle},
		{chained{[]int{-889012653, -1073, 1040, -2667, 807}, ends{-43103, -14879}, []ends{{-43103, -29916}}, api.ErrFull}, atMiddle},
		{chained{[]int{-983034466, -233, 523, -163, 970}, ends{8646, 33503}, []ends{{26528, 33503}, {31388, 32785}}, api.ErrFull}, atMiddle},
		{chained{[]int{-755913408, 465, 0, 0, 1684}, ends{0, 51768}, []ends{{3109, 42078}, {23224, 42078}}, api.ErrFull}, atMiddle},
		// By the slope.
		{chained{[]int{-1950466, 1, 9}, ends{0, 931010}, []ends{{0, 466505}}, api.ErrFull}, bySlope},
		{chained{[]int{3201696, 3, 0, 0, -500}, ends{-17892, 0}, []ends{{-8946, 0}}, api.ErrFull}, bySlope},
		{chained{[]int{3430257, -3, 0, -1000}, ends{0, 30176}, []ends{{0, 15087}}, api.ErrFull}, bySlope},
		{chained{[]int{-1068634, 1, 0, 0, 10}, ends{0, 36144}, []ends{{72, 36144}, {72, 18105}}, api.ErrFull}, bySlope},
		// Less that.
		{chained{[]int{-4000164, 3, 50}, ends{0, 565701}, []ends{{0, 282837}}, api.ErrFull}, lessThat},
		{chained{[]int{-13331582, -10, 5}, ends{-3266004, 0}, []ends{{-1632445, 0}}, api.ErrFull}, lessThat},
		{chained{[]int{66666941, 50, -50}, ends{-2309412, 0}, []ends{{-1154457, 0}}, api.ErrFull}, lessThat},
	} {
		last := r.near[len(r.near)-1]
		if at := fullAt(r.p, last.span()); at != r.at {
			t.Errorf("of Step(%v, %v) %s is beyond what may be, want %s", r.p, last, at, r.at)
		}
		checkChained(t, []chained{r.chained})
	}
}

// somePolys, someSpans and someSteps are such as nothing is wrong with alone; together some are beyond what may be, by what may be 0, or have no root: what is wrong is told ahead of that.
var (
	somePolys = [][]int{{0}, {1000, -3000, 2000}, {1, 2, 3, 4, 5}, {0, 0, half + 1}, {0, 0, 0, 0, -most}, {most, most, most}}
	someSpans = []ends{{0, 0}, {1000, 2000}, {-most, most}}
	someSteps = []int{0, 1, 2, 19, 20}
)

// checkWrong asks both calls of what is wrong with a polynomial, or with a span.
func checkWrong(t *testing.T, p []int, x ends, told api.Errno) {
	t.Helper()
	checkStep(t, p, x.span(), api.Span{}, told)
	for _, steps := range someSteps {
		checkRun(t, p, x.span(), steps, api.Span{}, told)
	}
	// Whatever is wrong with steps is told ahead of that.
	for _, steps := range wrongSteps {
		checkRun(t, p, x.span(), steps, api.Span{}, api.ErrRange)
	}
}

func TestWrongPoly(t *testing.T) {
	for _, w := range wrongPolys {
		for _, x := range someSpans {
			checkWrong(t, w.p, x, w.told)
		}
		// What is wrong with the span is told behind that.
		for _, x := range wrongSpans {
			checkWrong(t, w.p, x.x, w.told)
		}
	}
}

func TestWrongSpan(t *testing.T) {
	for _, w := range wrongSpans {
		for _, p := range somePolys {
			checkWrong(t, p, w.x, w.told)
		}
	}
}

func TestWrongSteps(t *testing.T) {
	for _, steps := range wrongSteps {
		for _, p := range somePolys {
			for _, x := range someSpans {
				checkRun(t, p, x.span(), steps, api.Span{}, api.ErrRange)
			}
		}
		checkRun(t, []int{-1000, 0, 1000}, api.Span{Lo: 4, Hi: 2435}, steps, api.Span{}, api.ErrRange)
	}
}

// TestNoStep asks of no Step: x is told as it is, whatever a Step would tell.
func TestNoStep(t *testing.T) {
	for _, p := range somePolys {
		for _, x := range someSpans {
			checkRun(t, p, x.span(), 0, x.span(), api.OK)
		}
	}
	checkRun(t, []int{-1000, 0, 1000}, api.Span{Lo: 4, Hi: 2435}, 0, api.Span{Lo: 4, Hi: 2435}, api.OK)
	checkRun(t, nil, api.Span{Lo: 4, Hi: 2435}, 0, api.Span{}, api.ErrNone)
	checkRun(t, []int{1, 2, 3, 4, 5, 6}, api.Span{Lo: 4, Hi: 2435}, 0, api.Span{}, api.ErrFull)
	checkRun(t, []int{0, most + 1}, api.Span{Lo: 4, Hi: 2435}, 0, api.Span{}, api.ErrRange)
	checkRun(t, []int{0, 1000}, api.Span{Lo: 4, Hi: 3}, 0, api.Span{}, api.ErrShape)
	checkRun(t, []int{0, 1000}, api.Span{Lo: 4, Hi: most + 1}, 0, api.Span{}, api.ErrRange)
}

// meantStep is what the document says of Step, by Horner and the slope; what is by the slope is reckoned anew.
func meantStep(p []int, x api.Span) (api.Span, error) {
	if err := poly.Check(p); err != nil {
		return api.Span{}, err
	}
	if err := span.Check(x); err != nil {
		return api.Span{}, err
	}
	middle := (x.Lo + x.Hi) >> 1
	there, errThere := poly.Horner(p, api.Span{Lo: middle, Hi: middle})
	slope, errSlope := center.Slope(p, x)
	if errThere != nil || errSlope != nil {
		return api.Span{}, api.ErrFull
	}
	if slope.Lo <= 0 && slope.Hi >= 0 {
		return api.Span{}, api.ErrZero
	}
	least, greatest := quotients(there, slope)
	lo, hi := middle-greatest, middle-least
	for _, n := range []int{least, greatest, lo, hi} {
		if n < -most || n > most {
			return api.Span{}, api.ErrFull
		}
	}
	if hi < x.Lo || lo > x.Hi {
		return api.Span{}, api.ErrNone
	}
	return api.Span{Lo: max(lo, x.Lo), Hi: min(hi, x.Hi)}, nil
}

// quotients gives the least of a by b, rounded down, and the greatest, rounded up; 0 is not in b.
func quotients(a, b api.Span) (int, int) {
	// With b above 0 the ends of a tell which end of b it is by.
	if b.Hi < 0 {
		a, b = api.Span{Lo: -a.Hi, Hi: -a.Lo}, api.Span{Lo: -b.Hi, Hi: -b.Lo}
	}
	below, above := b.Lo, b.Hi
	if a.Lo >= 0 {
		below = b.Hi
	}
	if a.Hi >= 0 {
		above = b.Lo
	}
	return floor(a.Lo*1000, below), -floor(-a.Hi*1000, above)
}

// floor is n by d, rounded down; d is above 0.
func floor(n, d int) int {
	rest := (n%d + d) % d
	return (n - rest) / d
}

// meantRun is what the document says of Run, with no Step left out.
func meantRun(p []int, x api.Span, steps int) (api.Span, error) {
	if steps <= -1 || steps >= 21 {
		return api.Span{}, api.ErrRange
	}
	if err := poly.Check(p); err != nil {
		return api.Span{}, err
	}
	if err := span.Check(x); err != nil {
		return api.Span{}, err
	}
	if steps == 0 {
		return x, nil
	}
	ahead, err := meantRun(p, x, steps-1)
	if err != nil {
		return api.Span{}, err
	}
	return meantStep(p, ahead)
}

// checkMeant asks both calls, and holds them against what is meant.
func checkMeant(t *testing.T, p []int, x api.Span, steps int) {
	t.Helper()
	near, err := meantStep(p, x)
	checkStep(t, p, x, near, plain.Told(err))
	near, err = meantRun(p, x, steps)
	checkRun(t, p, x, steps, near, plain.Told(err))
}

// TestAllOfEdges goes over polynomials whose factors, spans whose ends, and steps, are of numbers at which something turns.
func TestAllOfEdges(t *testing.T) {
	factors := []int{-most, -1, 0, 1000, half}
	spanEnds := []int{math.MinInt, -most - 1, -most, -1000001, -1001, 0, 31, 1000000, most, math.MaxInt}
	someMore := []int{math.MinInt, -1, 0, 1, 2, 3, 19, 20, 21, math.MaxInt}
	polys := [][]int{nil, {0, 0, 0, 0, 0, 0}, {0, most + 1}, {math.MinInt, 0, 0}, {7, 0, -1, 1000}, {-1, 1, 0, 0, 250000000}}
	longer := [][]int{nil}
	for range 3 {
		longer = withOneMore(longer, factors)
		polys = append(polys, longer...)
	}
	for _, p := range polys {
		for _, lo := range spanEnds {
			for _, hi := range spanEnds {
				for _, steps := range someMore {
					checkMeant(t, p, api.Span{Lo: lo, Hi: hi}, steps)
				}
			}
		}
	}
}

// withOneMore gives each list with each number behind it.
func withOneMore(lists [][]int, numbers []int) [][]int {
	var longer [][]int
	for _, l := range lists {
		for _, n := range numbers {
			longer = append(longer, append(slices.Clone(l), n))
		}
	}
	return longer
}

// ordinary are polynomials that are beyond what may be nowhere near 0, with roots there or without.
var ordinary = [][]int{
	{7}, {-1000, 1}, {500, -2000}, {-700, 999}, {1, 3}, {1, -2, 3}, {2000, -3000, 1000}, {1000, -2000, 1000}, {500, -1900, 100}, {0, 0, 2000, 1000}, {-500, 1500, -2500, 3500},
	{0, 2000, -3000, 1000}, {-6000, 11000, -6000, 1000}, {300, 4000, -100, 200}, {0, 0, 0, 0, 1}, {1000, 0, -2000, 0, 1000}, {4000, 0, -5000, 0, 1000},
	{777, -333, 0, 1111, -999}, {-1, -2, -3, -4, -5}, {7000, 30000, -2000, 1000}, {1000, -90000, 3000, -2000, 1000}, {-3000, 1500, 700, 0, 300},
}

// farthest is how far from 0 the ordinary ones are asked.
const farthest = 3000

// eachOrdinary asks each of them over spans below 0, above it and across it.
func eachOrdinary(ask func(p []int, x api.Span)) {
	for _, p := range ordinary {
		for lo := -farthest; lo <= farthest; lo += 125 {
			for hi := lo; hi <= farthest; hi += 143 {
				ask(p, api.Span{Lo: lo, Hi: hi})
			}
		}
	}
}

func TestOrdinary(t *testing.T) {
	eachOrdinary(func(p []int, x api.Span) {
		for _, steps := range someSteps {
			checkMeant(t, p, x, steps)
		}
	})
}

// TestNoneLost asks whether each root in a span is in what is told, and none is there where nothing is told to be in both.
func TestNoneLost(t *testing.T) {
	var roots []root
	var of []int
	kept, gone := 0, 0
	eachOrdinary(func(p []int, x api.Span) {
		if !slices.Equal(of, p) {
			of, roots = p, rootsOf(p)
		}
		for steps := range api.MaxSteps + 1 {
			near, err := newton.Run(p, x, steps)
			told := plain.Told(err)
			if told != api.OK && told != api.ErrNone {
				continue
			}
			for _, r := range roots {
				if !r.in(x) {
					continue
				}
				kept++
				if told == api.ErrNone || !r.in(near) {
					t.Errorf("Run(%v, %v, %d) = %v, %v, and the root between %d and %d is lost", p, x, steps, near, err, r.from, r.to)
				}
			}
			if told == api.ErrNone {
				gone++
			}
		}
	})
	if kept < 1000 || gone < 1000 {
		t.Errorf("only %d roots were in what is told, and only %d spans had none", kept, gone)
	}
}

// root of a polynomial, just at a number, or between two next to each other.
type root struct{ from, to int }

func (r root) in(x api.Span) bool { return x.Lo <= r.from && r.to <= x.Hi }

// rootsOf gives the numbers at which a polynomial is just 0, and the two next to each other between which it turns its sign.
func rootsOf(p []int) []root {
	var roots []root
	for at := -farthest; at <= farthest; at++ {
		here, next := exactly(p, at), exactly(p, at+1)
		if here == 0 {
			roots = append(roots, root{at, at})
		} else if next != 0 && (here < 0) != (next < 0) {
			roots = append(roots, root{at, at + 1})
		}
	}
	return roots
}

// exactly is what a polynomial of small factors is at a small number, without rounding, in so small parts that the greatest power has none left over.
func exactly(p []int, at int) int {
	sum, power, weight := 0, 1, 1000*1000*1000*1000
	for _, f := range p {
		sum += f * power * weight
		power *= at
		weight /= 1000
	}
	return sum
}

// TestWithin asks whether what is told is in x, and whether 0 is in no slope over it, as there was none in the slope over x.
func TestWithin(t *testing.T) {
	eachOrdinary(func(p []int, x api.Span) {
		near, err := newton.Step(p, x)
		if err != nil {
			return
		}
		if near.Lo < x.Lo || near.Hi > x.Hi || near.Lo > near.Hi {
			t.Errorf("Step(%v, %v) = %v, which is not in it", p, x, near)
		}
		if _, err := newton.Step(p, near); plain.Told(err) == api.ErrZero {
			t.Errorf("Step(%v, %v) = %v, and of that %v", p, x, near, err)
		}
	})
}

// TestAgain asks twice, with others between: what is told hangs on what is asked alone.
func TestAgain(t *testing.T) {
	p, x := []int{-1000, 0, 1000}, api.Span{Lo: 4, Hi: 2435}
	for range 2 {
		checkStep(t, p, x, api.Span{Lo: 4, Hi: 1120}, api.OK)
		checkRun(t, p, x, 7, api.Span{Lo: 1000, Hi: 1000}, api.OK)
		checkStep(t, []int{7, -667}, api.Span{Lo: 8, Hi: 8}, api.Span{}, api.ErrNone)
		checkRun(t, []int{0}, x, 7, api.Span{}, api.ErrZero)
	}
}

// FuzzOver holds any polynomial over any span with any steps against what is meant.
func FuzzOver(f *testing.F) {
	f.Add(uint8(3), 2000, -3000, 1000, 0, 0, 528, 2528, 3)
	f.Add(uint8(5), 4000, 0, -5000, 0, 1000, 1900, 2106, 20)
	f.Add(uint8(3), -1000, 0, 1000, 0, 0, 4, 2435, 7)
	f.Add(uint8(6), 0, 0, 0, 0, math.MinInt, 1, 0, -1)
	f.Fuzz(func(t *testing.T, count uint8, a, b, c, d, e, lo, hi, steps int) {
		for _, bound := range []int{math.MaxInt, most + 2, 40000, 3000, 25} {
			// Most ints are none that may be, and most products are beyond it, so they are brought near as well.
			near := []int{a % bound, b % bound, c % bound, d % bound, e % bound, a % bound}
			p := near[:int(count)%(len(near)+1)]
			checkMeant(t, p, api.Span{Lo: lo % bound, Hi: hi % bound}, steps)
			checkMeant(t, p, api.Span{Lo: min(lo%bound, hi%bound), Hi: max(lo%bound, hi%bound)}, steps%22)
		}
	})
}
