package poly_test

import (
	"math"
	"slices"
	"testing"

	"spanmeadow/api"
	"spanmeadow/plain"
	"spanmeadow/poly"
)

// most is the greatest number that may be.
const most = api.MaxNumber

// behind is what is laid behind a list's length, to tell whether it is written over.
const behind = 4711

// none is what comes beside an error.
var none = [2]int{}

// overSpan is a call of a polynomial and a span.
type overSpan = func(p []int, x api.Span) (api.Span, error)

func spanOf(ends [2]int) api.Span { return api.Span{Lo: ends[0], Hi: ends[1]} }

// wrongPolys are polynomials with a fault, and which; where several are wrong with one, what is told first.
var wrongPolys = []struct {
	p    []int
	told api.Errno
}{
	{nil, api.ErrNone},
	{[]int{}, api.ErrNone},
	{[]int{1, 2, 3, 4, 5}[:0], api.ErrNone},
	{[]int{0, 0, 0, 0, 0, 0}, api.ErrFull},
	{[]int{1000, 1000, 1000, 1000, 1000, 1000}, api.ErrFull},
	{make([]int, 1000), api.ErrFull},
	{[]int{most + 1}, api.ErrRange},
	{[]int{-most - 1}, api.ErrRange},
	{[]int{math.MinInt}, api.ErrRange},
	{[]int{math.MaxInt}, api.ErrRange},
	// Each place alone.
	{[]int{most + 1, 0, 0, 0, 0}, api.ErrRange},
	{[]int{0, -most - 1, 0, 0, 0}, api.ErrRange},
	{[]int{0, 0, math.MaxInt, 0, 0}, api.ErrRange},
	{[]int{0, 0, 0, math.MinInt, 0}, api.ErrRange},
	{[]int{0, 0, 0, 0, most + 1}, api.ErrRange},
	// Their sums, and what they are times their powers, wrap round.
	{[]int{math.MaxInt, math.MaxInt}, api.ErrRange},
	{[]int{math.MinInt, math.MinInt, math.MinInt, math.MinInt, math.MinInt}, api.ErrRange},
	{[]int{0, 0, 0, 0, 1 << 62}, api.ErrRange},
	// Too many, and one that may not be: the many are told first.
	{[]int{most + 1, 0, 0, 0, 0, 0}, api.ErrFull},
	{[]int{0, 0, 0, 0, 0, math.MinInt}, api.ErrFull},
	// Derived, one would be beyond what may be as well.
	{[]int{most + 1, 0, most}, api.ErrRange},
}

// wrongSpans are spans with a fault, and which.
var wrongSpans = []struct {
	lo, hi int
	told   api.Errno
}{
	{1, 0, api.ErrShape},
	{0, -1, api.ErrShape},
	{most, -most, api.ErrShape},
	{-most + 1, -most, api.ErrShape},
	{0, most + 1, api.ErrRange},
	{-most - 1, 0, api.ErrRange},
	{most + 1, 0, api.ErrRange},
	{0, -most - 1, api.ErrRange},
	{math.MinInt, math.MaxInt, api.ErrRange},
	{math.MaxInt, math.MinInt, api.ErrRange},
	{math.MinInt, math.MinInt, api.ErrRange},
	{math.MaxInt, math.MaxInt, api.ErrRange},
}

// handed is a list for a call, with memory behind its length; unchanged tells whether all of it is as it was.
func handed(p []int) (list []int, unchanged func() bool) {
	// Without memory nil stays nil, so that it is asked too.
	if p == nil {
		return nil, func() bool { return true }
	}
	whole := append(slices.Clone(p), behind, behind)
	before := slices.Clone(whole)
	return whole[:len(p)], func() bool { return slices.Equal(whole, before) }
}

func checkCheck(t *testing.T, p []int, told api.Errno) {
	t.Helper()
	list, unchanged := handed(p)
	if err := poly.Check(list); plain.Told(err) != told {
		t.Errorf("Check(%v) = %v; want %v", p, err, told)
	}
	if !unchanged() {
		t.Errorf("Check(%v) changed what it was handed", p)
	}
}

func checkCheckOver(t *testing.T, p []int, x api.Span, told api.Errno) {
	t.Helper()
	list, unchanged := handed(p)
	if err := poly.CheckOver(list, x); plain.Told(err) != told {
		t.Errorf("CheckOver(%v, %v) = %v; want %v", p, x, err, told)
	}
	if !unchanged() {
		t.Errorf("CheckOver(%v, %v) changed what it was handed", p, x)
	}
}

func checkOver(t *testing.T, name string, call overSpan, p []int, x, want api.Span, told api.Errno) {
	t.Helper()
	list, unchanged := handed(p)
	got, err := call(list, x)
	if got != want || plain.Told(err) != told {
		t.Errorf("%s(%v, %v) = %v, %v; want %v, %v", name, p, x, got, err, want, told)
	}
	if !unchanged() {
		t.Errorf("%s(%v, %v) changed what it was handed", name, p, x)
	}
}

func checkHorner(t *testing.T, p []int, x, want api.Span, told api.Errno) {
	t.Helper()
	checkOver(t, "Horner", poly.Horner, p, x, want, told)
}

func checkPowers(t *testing.T, p []int, x, want api.Span, told api.Errno) {
	t.Helper()
	checkOver(t, "Powers", poly.Powers, p, x, want, told)
}

func checkDerive(t *testing.T, p, want []int, told api.Errno) {
	t.Helper()
	list, unchanged := handed(p)
	got, err := poly.Derive(list)
	if !slices.Equal(got, want) || plain.Told(err) != told {
		t.Errorf("Derive(%v) = %v, %v; want %v, %v", p, got, err, want, told)
	}
	if !unchanged() {
		t.Errorf("Derive(%v) changed what it was handed", p)
	}
}

func TestCheck(t *testing.T) {
	for _, p := range [][]int{
		{0},
		{5000},
		{-5000},
		{0, 0},
		{1, -1},
		{1000, -3000, 2000},
		{1, 2, 3, 4},
		{1, 2, 3, 4, 5},
		{0, 0, 0, 0, 0},
		{most},
		{-most},
		{most, -most, most, -most, most},
		{-most, -most, -most, -most, -most},
	} {
		checkCheck(t, p, api.OK)
	}
	for _, w := range wrongPolys {
		checkCheck(t, w.p, w.told)
	}
}

// TestOver asks polynomials of one to five factors over spans above 0, below it, across it, of one number, and of 0.
func TestOver(t *testing.T) {
	spans := [...][2]int{{2000, 3000}, {-3000, -2000}, {-1500, 2500}, {1234, 1234}, {-1234, -1234}, {0, 0}}
	for _, r := range []struct {
		p              []int
		horner, powers [len(spans)][2]int
	}{
		{[]int{5000},
			[...][2]int{{5000, 5000}, {5000, 5000}, {5000, 5000}, {5000, 5000}, {5000, 5000}, {5000, 5000}},
			[...][2]int{{5000, 5000}, {5000, 5000}, {5000, 5000}, {5000, 5000}, {5000, 5000}, {5000, 5000}}},
		{[]int{-7},
			[...][2]int{{-7, -7}, {-7, -7}, {-7, -7}, {-7, -7}, {-7, -7}, {-7, -7}},
			[...][2]int{{-7, -7}, {-7, -7}, {-7, -7}, {-7, -7}, {-7, -7}, {-7, -7}}},
		{[]int{0, 0, 0, 0, 0},
			[...][2]int{{0, 0}, {0, 0}, {0, 0}, {0, 0}, {0, 0}, {0, 0}},
			[...][2]int{{0, 0}, {0, 0}, {0, 0}, {0, 0}, {0, 0}, {0, 0}}},
		{[]int{1000, 2000},
			[...][2]int{{5000, 7000}, {-5000, -3000}, {-2000, 6000}, {3468, 3468}, {-1468, -1468}, {1000, 1000}},
			[...][2]int{{5000, 7000}, {-5000, -3000}, {-2000, 6000}, {3468, 3468}, {-1468, -1468}, {1000, 1000}}},
		{[]int{-1000, -2000},
			[...][2]int{{-7000, -5000}, {3000, 5000}, {-6000, 2000}, {-3468, -3468}, {1468, 1468}, {-1000, -1000}},
			[...][2]int{{-7000, -5000}, {3000, 5000}, {-6000, 2000}, {-3468, -3468}, {1468, 1468}, {-1000, -1000}}},
		// A square over a span across 0 is never below 0 by Powers, and is by Horner.
		{[]int{0, 0, 1000},
			[...][2]int{{4000, 9000}, {4000, 9000}, {-3750, 6250}, {1522, 1523}, {1522, 1523}, {0, 0}},
			[...][2]int{{4000, 9000}, {4000, 9000}, {0, 6250}, {1522, 1523}, {1522, 1523}, {0, 0}}},
		{[]int{1000, -3000, 2000},
			[...][2]int{{3000, 10000}, {15000, 28000}, {-14000, 10000}, {343, 344}, {7747, 7748}, {1000, 1000}},
			[...][2]int{{0, 13000}, {15000, 28000}, {-6500, 18000}, {342, 344}, {7746, 7748}, {1000, 1000}}},
		{[]int{1, -2, 3, -4},
			[...][2]int{{-86, -23}, {49, 142}, {-49, 54}, {-6, -2}, {13, 16}, {1, 1}},
			[...][2]int{{-101, -8}, {49, 142}, {-67, 37}, {-6, -3}, {14, 17}, {1, 1}}},
		{[]int{-500, 1500, -2500, 3500},
			[...][2]int{{20500, 76000}, {-122000, -41500}, {-45188, 42313}, {4120, 4122}, {-12736, -12733}, {-500, -500}},
			[...][2]int{{8000, 88500}, {-122000, -41500}, {-30188, 57938}, {4116, 4126}, {-12739, -12729}, {-500, -500}}},
		{[]int{0, 0, 0, 0, 1000},
			[...][2]int{{16000, 81000}, {16000, 81000}, {-23438, 39063}, {2317, 2320}, {2317, 2320}, {0, 0}},
			[...][2]int{{16000, 81000}, {16000, 81000}, {0, 39063}, {2317, 2320}, {2317, 2320}, {0, 0}}},
		{[]int{-1, -2, -3, -4, -5},
			[...][2]int{{-547, -129}, {-319, -57}, {-294, 175}, {-30, -25}, {-10, -5}, {-1, -1}},
			[...][2]int{{-547, -129}, {-397, 21}, {-284, 16}, {-29, -25}, {-9, -5}, {-1, -1}}},
		{[]int{777, -333, 0, 1111, -999},
			[...][2]int{{-51144, -6985}, {-109140, -23429}, {-24526, 40727}, {135, 141}, {-3218, -3213}, {777, 777}},
			[...][2]int{{-72253, 14124}, {-109473, -23096}, {-42830, 18637}, {134, 142}, {-3220, -3212}, {777, 777}}},
	} {
		for i, x := range spans {
			checkHorner(t, r.p, spanOf(x), spanOf(r.horner[i]), api.OK)
			checkPowers(t, r.p, spanOf(x), spanOf(r.powers[i]), api.OK)
		}
	}
}

// edge is a polynomial over a span, and what comes of it by either way.
type edge struct {
	p              []int
	x              [2]int
	horner, powers [2]int
	told, toldPow  api.Errno
}

func checkEdges(t *testing.T, edges []edge) {
	t.Helper()
	for _, e := range edges {
		checkHorner(t, e.p, spanOf(e.x), spanOf(e.horner), e.told)
		checkPowers(t, e.p, spanOf(e.x), spanOf(e.powers), e.toldPow)
	}
}

// TestBothFull asks on either side of where both ways are beyond what may be.
func TestBothFull(t *testing.T) {
	whole := [2]int{-most, most}
	top := [2]int{most, most}
	bottom := [2]int{-most, -most}
	checkEdges(t, []edge{
		{[]int{most}, whole, top, top, api.OK, api.OK},
		{[]int{-most}, top, bottom, bottom, api.OK, api.OK},
		{[]int{0, 1000}, whole, whole, whole, api.OK, api.OK},
		{[]int{0, -1000}, whole, whole, whole, api.OK, api.OK},
		{[]int{0, 1000}, bottom, bottom, bottom, api.OK, api.OK},
		{[]int{0, most}, [2]int{-1000, 1000}, whole, whole, api.OK, api.OK},
		{[]int{0, -most}, [2]int{1000, 1000}, bottom, bottom, api.OK, api.OK},
		{[]int{most, -1000}, [2]int{0, most}, [2]int{0, most}, [2]int{0, most}, api.OK, api.OK},
		{[]int{-1, 1000}, top, [2]int{most - 1, most - 1}, [2]int{most - 1, most - 1}, api.OK, api.OK},
		{[]int{999999000, 1}, [2]int{1000000, 1000000}, top, top, api.OK, api.OK},
		{[]int{-999999000, -1}, [2]int{1000000, 1000000}, bottom, bottom, api.OK, api.OK},
		{[]int{0, 0, 1000}, [2]int{1000000, 1000000}, top, top, api.OK, api.OK},
		{[]int{0, 0, 0, 1000}, [2]int{-100000, 100000}, whole, whole, api.OK, api.OK},
		{[]int{0, 0, 0, 0, 1000}, [2]int{31622, 31622}, [2]int{999900857, 999901902}, [2]int{999900857, 999901902}, api.OK, api.OK},
		// A product, by one end alone, and by both.
		{[]int{0, 1001}, top, none, none, api.ErrFull, api.ErrFull},
		{[]int{0, most}, [2]int{0, 1001}, none, none, api.ErrFull, api.ErrFull},
		{[]int{0, -most}, [2]int{-1001, 0}, none, none, api.ErrFull, api.ErrFull},
		{[]int{0, -1001}, whole, none, none, api.ErrFull, api.ErrFull},
		// A sum, likewise.
		{[]int{1, 1000}, top, none, none, api.ErrFull, api.ErrFull},
		{[]int{-1, -1000}, top, none, none, api.ErrFull, api.ErrFull},
		{[]int{-most, 1000}, [2]int{-1, most}, none, none, api.ErrFull, api.ErrFull},
		{[]int{999999000, 1}, [2]int{1000001, 1000001}, none, none, api.ErrFull, api.ErrFull},
		{[]int{-999999000, -1}, [2]int{0, 1000001}, none, none, api.ErrFull, api.ErrFull},
		{[]int{most, most}, [2]int{1, 1}, none, none, api.ErrFull, api.ErrFull},
		// A power.
		{[]int{0, 0, 1000}, [2]int{1000001, 1000001}, none, none, api.ErrFull, api.ErrFull},
		{[]int{0, 0, 1000}, [2]int{-1000001, 0}, none, none, api.ErrFull, api.ErrFull},
		{[]int{0, 0, 0, 1000}, [2]int{100001, 100001}, none, none, api.ErrFull, api.ErrFull},
		{[]int{0, 0, 0, 0, 1000}, [2]int{31623, 31623}, none, none, api.ErrFull, api.ErrFull},
		{[]int{most, most, most, most, most}, whole, none, none, api.ErrFull, api.ErrFull},
		{[]int{-most, -most, -most, -most, -most}, bottom, none, none, api.ErrFull, api.ErrFull},
		// Only on the way: what is added behind would bring it back.
		{[]int{-most, most}, [2]int{1001, 1001}, none, none, api.ErrFull, api.ErrFull},
		{[]int{most, -most}, [2]int{1001, 1001}, none, none, api.ErrFull, api.ErrFull},
	})
}

// TestOneWayFull asks where one way is beyond what may be, on its way alone, and the other one is not.
func TestOneWayFull(t *testing.T) {
	checkEdges(t, []edge{
		// The last two factors together, ahead of what makes it less again.
		{[]int{0, most, most}, [2]int{1, 1}, none, [2]int{1000000, 2000000}, api.ErrFull, api.OK},
		{[]int{0, -most, -most}, [2]int{1, 1}, none, [2]int{-2000000, -1000000}, api.ErrFull, api.OK},
		// The first two together, ahead of what is added behind.
		{[]int{most, 1, -most}, [2]int{1000, 1000}, [2]int{1, 1}, none, api.OK, api.ErrFull},
		{[]int{1, most, -most}, [2]int{1000, 1000}, [2]int{1, 1}, none, api.OK, api.ErrFull},
		{[]int{-1, -most, most}, [2]int{1000, 1000}, [2]int{-1, -1}, none, api.OK, api.ErrFull},
		// A power, ahead of a factor that makes it less again.
		{[]int{0, 0, 1}, [2]int{1000000, 1000000}, [2]int{1000000, 1000000}, [2]int{1000000, 1000000}, api.OK, api.OK},
		{[]int{0, 0, 1}, [2]int{1000001, 1000001}, [2]int{1000001, 1001002}, none, api.OK, api.ErrFull},
		{[]int{0, 0, 0, 1}, [2]int{100001, 100001}, [2]int{1000010, 1010111}, none, api.OK, api.ErrFull},
		{[]int{0, 0, 0, 0, 1}, [2]int{31623, 31623}, [2]int{979996, 1012031}, none, api.OK, api.ErrFull},
		// Also ahead of a factor that is 0.
		{[]int{0, 0, 0}, [2]int{1000001, 1000001}, none, none, api.OK, api.ErrFull},
		{[]int{0, 0, 0, 0}, [2]int{-100001, 0}, none, none, api.OK, api.ErrFull},
		{[]int{0, 0, 0, 0, 0}, [2]int{31622, 31622}, none, none, api.OK, api.OK},
		{[]int{0, 0, 0, 0, 0}, [2]int{31623, 31623}, none, none, api.OK, api.ErrFull},
		{[]int{0, 0, 0, 0, 0}, [2]int{-most, most}, none, none, api.OK, api.ErrFull},
		{[]int{5, 0, 0}, [2]int{-most, most}, [2]int{5, 5}, none, api.OK, api.ErrFull},
		// A square that Horner takes as one of two numbers: only that is further down.
		{[]int{-1, 0, 1000}, [2]int{-1000000, 1000000}, none, [2]int{-1, most - 1}, api.ErrFull, api.OK},
		{[]int{0, 0, 1000}, [2]int{-1000000, 1000000}, [2]int{-most, most}, [2]int{0, most}, api.OK, api.OK},
		{[]int{0, 0, 0, 0, 1000}, [2]int{-31622, 31622}, [2]int{-999901902, 999901902}, [2]int{0, 999901902}, api.OK, api.OK},
	})
}

func TestOverWrong(t *testing.T) {
	for _, w := range wrongPolys {
		for _, x := range [][2]int{{0, 0}, {1000, 2000}, {-most, most}} {
			checkHorner(t, w.p, spanOf(x), api.Span{}, w.told)
			checkPowers(t, w.p, spanOf(x), api.Span{}, w.told)
		}
		// What is wrong with the polynomial is told ahead of what is wrong with the span.
		for _, x := range wrongSpans {
			checkHorner(t, w.p, api.Span{Lo: x.lo, Hi: x.hi}, api.Span{}, w.told)
			checkPowers(t, w.p, api.Span{Lo: x.lo, Hi: x.hi}, api.Span{}, w.told)
		}
	}
	for _, x := range wrongSpans {
		// Also where no factor is times x, and where it would be beyond what may be as well.
		for _, p := range [][]int{{0}, {1000}, {0, 0}, {1000, -3000, 2000}, {1, 2, 3, 4, 5}, {most, most, most}} {
			checkHorner(t, p, api.Span{Lo: x.lo, Hi: x.hi}, api.Span{}, x.told)
			checkPowers(t, p, api.Span{Lo: x.lo, Hi: x.hi}, api.Span{}, x.told)
		}
	}
}

func TestDerive(t *testing.T) {
	for _, c := range []struct {
		p, want []int
		told    api.Errno
	}{
		{[]int{5000}, []int{0}, api.OK},
		{[]int{-most}, []int{0}, api.OK},
		{[]int{0}, []int{0}, api.OK},
		{[]int{5, 7}, []int{7}, api.OK},
		{[]int{5, 0}, []int{0}, api.OK},
		{[]int{1000, -3000, 2000}, []int{-3000, 4000}, api.OK},
		{[]int{1, 2, 3, 4}, []int{2, 6, 12}, api.OK},
		{[]int{-1, -2, -3, -4, -5}, []int{-2, -6, -12, -20}, api.OK},
		{[]int{7, 0, 0, 0, 1000}, []int{0, 0, 0, 4000}, api.OK},
		{[]int{0, 0, 0, 0, 0}, []int{0, 0, 0, 0}, api.OK},
		// The first factor may be anything that may be.
		{[]int{most, most}, []int{most}, api.OK},
		{[]int{-most, -most}, []int{-most}, api.OK},
		// On either side of where one is beyond what may be, with each power.
		{[]int{0, 0, most / 2}, []int{0, most}, api.OK},
		{[]int{0, 0, -most / 2}, []int{0, -most}, api.OK},
		{[]int{0, 0, most/2 + 1}, nil, api.ErrFull},
		{[]int{0, 0, -most/2 - 1}, nil, api.ErrFull},
		{[]int{0, 0, 0, 333333333}, []int{0, 0, 999999999}, api.OK},
		{[]int{0, 0, 0, -333333333}, []int{0, 0, -999999999}, api.OK},
		{[]int{0, 0, 0, 333333334}, nil, api.ErrFull},
		{[]int{0, 0, 0, -333333334}, nil, api.ErrFull},
		{[]int{0, 0, 0, 0, most / 4}, []int{0, 0, 0, most}, api.OK},
		{[]int{0, 0, 0, 0, -most / 4}, []int{0, 0, 0, -most}, api.OK},
		{[]int{0, 0, 0, 0, most/4 + 1}, nil, api.ErrFull},
		{[]int{0, 0, 0, 0, -most/4 - 1}, nil, api.ErrFull},
		// Not the last one, and all of them.
		{[]int{0, 0, most, 0, 0}, nil, api.ErrFull},
		{[]int{1, 1, 1, most, 1}, nil, api.ErrFull},
		{[]int{most, -most, most, -most, most}, nil, api.ErrFull},
	} {
		checkDerive(t, c.p, c.want, c.told)
	}
	for _, w := range wrongPolys {
		checkDerive(t, w.p, nil, w.told)
	}
}

// TestDeriveFresh: what comes out is the caller's, whatever is done to it or to what was handed in.
func TestDeriveFresh(t *testing.T) {
	for _, p := range [][]int{{5}, {5, 7}, {1, 2, 3, 4, 5}} {
		first, _ := poly.Derive(p)
		want := slices.Clone(first)
		before := slices.Clone(p)
		for i := range first[:cap(first)] {
			first[:cap(first)][i] = -behind
		}
		if !slices.Equal(p, before) {
			t.Errorf("writing into what Derive(%v) gave made it %v", before, p)
		}
		checkDerive(t, p, want, api.OK)
		second, _ := poly.Derive(p)
		for i := range p {
			p[i] = behind
		}
		if !slices.Equal(second, want) {
			t.Errorf("writing into %v made what Derive gave %v", before, second)
		}
	}
}

// down is a number of thousandths of thousandths, rounded down to thousandths.
func down(n int) int {
	return (n - (n%1000+1000)%1000) / 1000
}

// up is likewise rounded up.
func up(n int) int {
	return -down(-n)
}

// meantWrong is what the document says is wrong with a polynomial.
func meantWrong(p []int) api.Errno {
	switch len(p) {
	case 0:
		return api.ErrNone
	case 1, 2, 3, 4, 5:
	default:
		return api.ErrFull
	}
	for _, f := range p {
		if f > most || f < -most {
			return api.ErrRange
		}
	}
	return api.OK
}

// meantWrongOver is likewise of a polynomial and a span.
func meantWrongOver(p []int, x api.Span) api.Errno {
	if told := meantWrong(p); told != api.OK {
		return told
	}
	if min(x.Lo, x.Hi) < -most || max(x.Lo, x.Hi) > most {
		return api.ErrRange
	}
	if x.Hi < x.Lo {
		return api.ErrShape
	}
	return api.OK
}

// fits tells whether both ends of a span may be.
func fits(s api.Span) bool {
	return s.Lo >= -most && s.Hi <= most
}

// meantTimes is a span times one that is given by its ends.
func meantTimes(a api.Span, lo, hi int) api.Span {
	products := []int{a.Lo * lo, a.Lo * hi, a.Hi * lo, a.Hi * hi}
	return api.Span{Lo: down(slices.Min(products)), Hi: up(slices.Max(products))}
}

// meantHorner is what the document says of Horner, of what is not wrong; false if it is beyond what may be.
func meantHorner(p []int, x api.Span) (api.Span, bool) {
	last := len(p) - 1
	s := api.Span{Lo: p[last], Hi: p[last]}
	for i := last - 1; i >= 0; i-- {
		s = meantTimes(s, x.Lo, x.Hi)
		if !fits(s) {
			return api.Span{}, false
		}
		s = api.Span{Lo: s.Lo + p[i], Hi: s.Hi + p[i]}
		if !fits(s) {
			return api.Span{}, false
		}
	}
	return s, true
}

// meantRaised is a number from 0 on with itself, n times, rounded each time; beyond what may be it stays.
func meantRaised(x, n int, round func(int) int) int {
	p := 1000
	for i := 0; i < n && p <= most; i++ {
		p = round(p * x)
	}
	return p
}

// meantPower is a span with itself, n times.
func meantPower(x api.Span, n int) api.Span {
	if n%2 == 0 {
		switch {
		case x.Hi < 0:
			x.Lo, x.Hi = -x.Hi, -x.Lo
		case x.Lo < 0:
			x.Lo, x.Hi = 0, max(-x.Lo, x.Hi)
		}
	}
	s := api.Span{Lo: meantRaised(x.Lo, n, down), Hi: meantRaised(x.Hi, n, up)}
	if x.Lo < 0 {
		s.Lo = -meantRaised(-x.Lo, n, up)
	}
	if x.Hi < 0 {
		s.Hi = -meantRaised(-x.Hi, n, down)
	}
	return s
}

// meantPowers is what the document says of Powers, likewise.
func meantPowers(p []int, x api.Span) (api.Span, bool) {
	sum := api.Span{}
	for n, f := range p {
		s := meantPower(x, n)
		if !fits(s) {
			return api.Span{}, false
		}
		s = meantTimes(s, f, f)
		if !fits(s) {
			return api.Span{}, false
		}
		sum = api.Span{Lo: sum.Lo + s.Lo, Hi: sum.Hi + s.Hi}
		if !fits(sum) {
			return api.Span{}, false
		}
	}
	return sum, true
}

// meantDerive is what the document says of Derive, likewise.
func meantDerive(p []int) ([]int, bool) {
	if len(p) == 1 {
		return []int{0}, true
	}
	var d []int
	for n := 1; n < len(p); n++ {
		one := 0
		for i := 0; i < n; i++ {
			one += p[n]
		}
		if one > most || one < -most {
			return nil, false
		}
		d = append(d, one)
	}
	return d, true
}

// toldOf is the error of what is beyond what may be, or of what is not.
func toldOf(ok bool) api.Errno {
	if ok {
		return api.OK
	}
	return api.ErrFull
}

// checkMeant asks all calls, and holds them against what is meant.
func checkMeant(t *testing.T, p []int, x api.Span) {
	t.Helper()
	checkMeantAlone(t, p)
	checkCheckOver(t, p, x, meantWrongOver(p, x))
	if told := meantWrongOver(p, x); told != api.OK {
		checkHorner(t, p, x, api.Span{}, told)
		checkPowers(t, p, x, api.Span{}, told)
		return
	}
	s, ok := meantHorner(p, x)
	checkHorner(t, p, x, s, toldOf(ok))
	s, ok = meantPowers(p, x)
	checkPowers(t, p, x, s, toldOf(ok))
}

// checkMeantAlone asks the calls that have no span.
func checkMeantAlone(t *testing.T, p []int) {
	t.Helper()
	told := meantWrong(p)
	checkCheck(t, p, told)
	if told != api.OK {
		checkDerive(t, p, nil, told)
		return
	}
	d, ok := meantDerive(p)
	checkDerive(t, p, d, toldOf(ok))
}

// TestAllOfEdges goes over polynomials whose factors, and spans whose ends, are of numbers at which something turns.
func TestAllOfEdges(t *testing.T) {
	factors := []int{-most, -1001, -1, 0, 1000, 31623, most}
	ends := []int{math.MinInt, -most - 1, -most, -1000001, -100001, -31623, -31622, -1001, -1, 0, 1, 999, 1000, 31622, 31623, 100000, 1000000, most, most + 1, math.MaxInt}
	polys := [][]int{nil, {0, 0, 0, 0, 0, 0}, {0, most + 1}, {math.MinInt, 0, 0}}
	longer := [][]int{nil}
	for range 3 {
		longer = withOneMore(longer, factors)
		polys = append(polys, longer...)
	}
	// Of four and five factors only some, as there are many.
	polys = append(polys, withOneMore(longer, []int{-7, 1000})...)
	polys = append(polys, withOneMore(withOneMore(longer, []int{0}), []int{1, -1000})...)
	for _, p := range polys {
		for _, lo := range ends {
			for _, hi := range ends {
				checkMeant(t, p, api.Span{Lo: lo, Hi: hi})
			}
		}
	}
}

// withOneMore gives each list with each number behind it.
func withOneMore(lists [][]int, numbers []int) [][]int {
	var longer [][]int
	for _, l := range lists {
		for _, n := range numbers {
			longer = append(longer, append(slices.Clone(l), n))
		}
	}
	return longer
}

// TestIn asks whether what a polynomial is at each number of a span is in what is told of that span.
func TestIn(t *testing.T) {
	for _, p := range [][]int{
		{7}, {-1000, 1}, {1, -2, 3}, {2000, -3000, 1000}, {0, 0, 2000, 1000}, {-500, 1500, -2500, 3500},
		{0, 0, 0, 0, 1}, {1000, 0, -2000, 0, 1000}, {777, -333, 0, 1111, -999}, {-1, -2, -3, -4, -5},
	} {
		for lo := -3000; lo <= 3000; lo += 371 {
			for hi := lo; hi <= 3000; hi += 371 {
				checkIn(t, "Horner", poly.Horner, p, api.Span{Lo: lo, Hi: hi})
				checkIn(t, "Powers", poly.Powers, p, api.Span{Lo: lo, Hi: hi})
			}
		}
	}
}

func checkIn(t *testing.T, name string, call overSpan, p []int, x api.Span) {
	t.Helper()
	s, err := call(p, x)
	if err != nil {
		t.Errorf("%s(%v, %v): %v", name, p, x, err)
	}
	for at := x.Lo; at <= x.Hi; at += 53 {
		if is, scale := exactly(p, at); is < s.Lo*scale || is > s.Hi*scale {
			t.Errorf("%s(%v, %v) = %v, and what it is at %d is not in that", name, p, x, s, at)
		}
	}
}

// exactly is what a polynomial is at a number, without rounding: so many of which scale are a thousandth.
func exactly(p []int, at int) (is, scale int) {
	scale = 1
	for i := len(p) - 1; i > 0; i-- {
		is = (is + p[i]*scale) * at
		scale *= 1000
	}
	return is + p[0]*scale, scale
}

// FuzzOver holds any polynomial over any span against what is meant.
func FuzzOver(f *testing.F) {
	f.Add(uint8(3), 2000, -3000, 1000, 0, 0, -4199, -4195)
	f.Add(uint8(5), 2, 0, 2024, -1, 2000, -4684, -3415)
	f.Add(uint8(6), 0, 0, 0, 0, math.MinInt, 1, 0)
	f.Fuzz(func(t *testing.T, count uint8, a, b, c, d, e, lo, hi int) {
		for _, bound := range []int{math.MaxInt, most + 2, 40000, 3000} {
			// Most ints are none that may be, and most products are beyond it, so they are brought near as well.
			near := []int{a % bound, b % bound, c % bound, d % bound, e % bound, a % bound}
			p := near[:int(count)%(len(near)+1)]
			checkMeant(t, p, api.Span{Lo: lo % bound, Hi: hi % bound})
			checkMeant(t, p, api.Span{Lo: min(lo%bound, hi%bound), Hi: max(lo%bound, hi%bound)})
		}
	})
}
