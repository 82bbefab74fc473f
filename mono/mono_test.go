package mono_test

import (
	"math"
	"slices"
	"testing"

	"spanmeadow/api"
	"spanmeadow/center"
	"spanmeadow/mono"
	"spanmeadow/plain"
	"spanmeadow/poly"
)

// most is the greatest number that may be, and half the half of it.
const (
	most = api.MaxNumber
	half = most / 2
)

// behind is what is laid behind a list's length, to tell whether it is written over.
const behind = 4711

// ends of a span.
type ends [2]int

func (e ends) span() api.Span { return api.Span{Lo: e[0], Hi: e[1]} }

// full stands for a range that would be beyond what may be; no span has such ends.
var full = ends{1, -1}

// fullWay likewise stands for where a slope would be; it is no way.
const fullWay = 4

// wrongPolys are polynomials with a fault, and which; where several are wrong with one, what is told first.
var wrongPolys = []struct {
	p    []int
	told api.Errno
}{
	{nil, api.ErrNone},
	{[]int{}, api.ErrNone},
	{[]int{1, 2, 3, 4, 5}[:0], api.ErrNone},
	{[]int{0, 0, 0, 0, 0, 0}, api.ErrFull},
	{[]int{1000, 1000, 1000, 1000, 1000, 1000}, api.ErrFull},
	{make([]int, 1000), api.ErrFull},
	{[]int{most + 1}, api.ErrRange},
	{[]int{-most - 1}, api.ErrRange},
	{[]int{math.MinInt}, api.ErrRange},
	{[]int{math.MaxInt}, api.ErrRange},
	// Each place alone; the first one has no slope.
	{[]int{most + 1, 0, 0, 0, 0}, api.ErrRange},
	{[]int{0, -most - 1, 0, 0, 0}, api.ErrRange},
	{[]int{0, 0, math.MaxInt, 0, 0}, api.ErrRange},
	{[]int{0, 0, 0, math.MinInt, 0}, api.ErrRange},
	{[]int{0, 0, 0, 0, most + 1}, api.ErrRange},
	// Their sums, and what they are times their powers, wrap round.
	{[]int{math.MaxInt, math.MaxInt}, api.ErrRange},
	{[]int{math.MinInt, math.MinInt, math.MinInt, math.MinInt, math.MinInt}, api.ErrRange},
	{[]int{0, 0, 0, 0, 1 << 62}, api.ErrRange},
	// Too many, and one that may not be: the many are told first.
	{[]int{most + 1, 0, 0, 0, 0, 0}, api.ErrFull},
	{[]int{0, 0, 0, 0, 0, math.MinInt}, api.ErrFull},
	// A slope would be beyond what may be as well.
	{[]int{most + 1, 0, most}, api.ErrRange},
}

// wrongSpans are spans with a fault, and which.
var wrongSpans = []struct {
	x    ends
	told api.Errno
}{
	{ends{1, 0}, api.ErrShape},
	{ends{0, -1}, api.ErrShape},
	{ends{most, -most}, api.ErrShape},
	{ends{-most + 1, -most}, api.ErrShape},
	{ends{0, most + 1}, api.ErrRange},
	{ends{-most - 1, 0}, api.ErrRange},
	{ends{most + 1, 0}, api.ErrRange},
	{ends{0, -most - 1}, api.ErrRange},
	{ends{-most - 1, most + 1}, api.ErrRange},
	{ends{math.MinInt, math.MaxInt}, api.ErrRange},
	{ends{math.MaxInt, math.MinInt}, api.ErrRange},
	{ends{math.MinInt, math.MinInt}, api.ErrRange},
	{ends{math.MaxInt, math.MaxInt}, api.ErrRange},
}

// handed is a list for a call, with memory behind its length; unchanged tells whether all of it is as it was.
func handed(p []int) (list []int, unchanged func() bool) {
	// Without memory nil stays nil, so that it is asked too.
	if p == nil {
		return nil, func() bool { return true }
	}
	whole := append(slices.Clone(p), behind, behind)
	before := slices.Clone(whole)
	return whole[:len(p)], func() bool { return slices.Equal(whole, before) }
}

func checkWay(t *testing.T, p []int, x api.Span, want int, told api.Errno) {
	t.Helper()
	list, unchanged := handed(p)
	got, err := mono.Way(list, x)
	if got != want || plain.Told(err) != told {
		t.Errorf("Way(%v, %v) = %v, %v; want %v, %v", p, x, got, err, want, told)
	}
	if !unchanged() {
		t.Errorf("Way(%v, %v) changed what it was handed", p, x)
	}
}

func checkRange(t *testing.T, p []int, x, want api.Span, told api.Errno) {
	t.Helper()
	list, unchanged := handed(p)
	got, err := mono.Range(list, x)
	if got != want || plain.Told(err) != told {
		t.Errorf("Range(%v, %v) = %v, %v; want %v, %v", p, x, got, err, want, told)
	}
	if !unchanged() {
		t.Errorf("Range(%v, %v) changed what it was handed", p, x)
	}
}

// checkWrong asks both calls of what is wrong.
func checkWrong(t *testing.T, p []int, x api.Span, told api.Errno) {
	t.Helper()
	checkWay(t, p, x, 0, told)
	checkRange(t, p, x, api.Span{}, told)
}

// asked is a polynomial over a span, and what comes of it; all is that of Range.
type asked struct {
	p   []int
	x   ends
	way int
	all ends
}

func checkAll(t *testing.T, all []asked) {
	t.Helper()
	for _, a := range all {
		if a.way == fullWay {
			checkWay(t, a.p, a.x.span(), 0, api.ErrFull)
		} else {
			checkWay(t, a.p, a.x.span(), a.way, api.OK)
		}
		if a.all == full {
			checkRange(t, a.p, a.x.span(), api.Span{}, api.ErrFull)
		} else {
			checkRange(t, a.p, a.x.span(), a.all.span(), api.OK)
		}
	}
}

// TestOver asks polynomials of one to five factors over spans above 0, below it, across it, of one number, of 0, and of some numbers near 0.
func TestOver(t *testing.T) {
	spans := [...]ends{{2000, 3000}, {-3000, -2000}, {-1500, 2500}, {1234, 1234}, {-1234, -1234}, {0, 0}, {-4, 1}}
	for _, r := range []struct {
		p    []int
		ways [len(spans)]int
		all  [len(spans)]ends
	}{
		{[]int{5000},
			[...]int{1, 1, 1, 1, 1, 1, 1},
			[...]ends{{5000, 5000}, {5000, 5000}, {5000, 5000}, {5000, 5000}, {5000, 5000}, {5000, 5000}, {5000, 5000}}},
		{[]int{-7},
			[...]int{1, 1, 1, 1, 1, 1, 1},
			[...]ends{{-7, -7}, {-7, -7}, {-7, -7}, {-7, -7}, {-7, -7}, {-7, -7}, {-7, -7}}},
		{[]int{0, 0, 0, 0, 0},
			[...]int{1, 1, 1, 1, 1, 1, 1},
			[...]ends{{0, 0}, {0, 0}, {0, 0}, {0, 0}, {0, 0}, {0, 0}, {0, 0}}},
		{[]int{1000, 2000},
			[...]int{1, 1, 1, 1, 1, 1, 1},
			[...]ends{{5000, 7000}, {-5000, -3000}, {-2000, 6000}, {3468, 3468}, {-1468, -1468}, {1000, 1000}, {992, 1002}}},
		{[]int{-1000, -2000},
			[...]int{-1, -1, -1, -1, -1, -1, -1},
			[...]ends{{-7000, -5000}, {3000, 5000}, {-6000, 2000}, {-3468, -3468}, {1468, 1468}, {-1000, -1000}, {-1002, -992}}},
		{[]int{0, 0, 1000},
			[...]int{1, -1, 0, 1, -1, 1, 0},
			[...]ends{{4000, 9000}, {4000, 9000}, {0, 6250}, {1522, 1523}, {1522, 1523}, {0, 0}, {0, 1}}},
		{[]int{2000, -3000, 1000},
			[...]int{1, -1, 0, -1, -1, -1, -1},
			[...]ends{{0, 2000}, {12000, 20000}, {-5500, 8750}, {-180, -179}, {7224, 7225}, {2000, 2000}, {1997, 2013}}},
		{[]int{-2000, 3000, -1000},
			[...]int{-1, 1, 0, 1, 1, 1, 1},
			[...]ends{{-2000, 0}, {-20000, -12000}, {-8750, 5500}, {179, 180}, {-7225, -7224}, {-2000, -2000}, {-2013, -1997}}},
		{[]int{1, -2, 3, -4},
			[...]int{-1, -1, 0, -1, -1, -1, -1},
			[...]ends{{-86, -23}, {49, 142}, {-49, 37}, {-6, -2}, {13, 16}, {1, 1}, {0, 2}}},
		{[]int{-500, 1500, -2500, 3500},
			[...]int{1, 1, 0, 1, 1, 1, 1},
			[...]ends{{20500, 76000}, {-122000, -41500}, {-30188, 42313}, {4120, 4122}, {-12736, -12733}, {-500, -500}, {-507, -498}}},
		{[]int{7000, 30000, -2000, 1000},
			[...]int{1, 1, 1, 1, 1, 1, 1},
			[...]ends{{67000, 106000}, {-128000, -69000}, {-45875, 85125}, {42852, 42854}, {-34945, -34943}, {7000, 7000}, {6879, 7030}}},
		{[]int{0, 0, 0, 0, 1000},
			[...]int{1, -1, 0, 1, -1, 1, 0},
			[...]ends{{16000, 81000}, {16000, 81000}, {0, 39063}, {2317, 2320}, {2317, 2320}, {0, 0}, {0, 1}}},
		{[]int{-1, -2, -3, -4, -5},
			[...]int{-1, 1, 0, -1, 1, -1, -1},
			[...]ends{{-547, -129}, {-319, -57}, {-284, 16}, {-30, -25}, {-10, -5}, {-1, -1}, {-2, 0}}},
		{[]int{777, -333, 0, 1111, -999},
			[...]int{-1, 1, 0, -1, 1, -1, -1},
			[...]ends{{-51144, -6985}, {-109140, -23429}, {-24526, 18637}, {135, 141}, {-3218, -3213}, {777, 777}, {776, 779}}},
		{[]int{-1000000, 2000000, -3000000, 4000000, -5000000},
			[...]int{-1, 1, 0, -1, 1, 1, 1},
			[...]ends{{-319000000, -57000000}, {-547000000, -129000000}, {-147562500, 66500000}, {-7177875, -7177872}, {-27146522, -27146520}, {-1000000, -1000000}, {-1008049, -998002}}},
		{[]int{1000, -90000, 3000, -2000, 1000},
			[...]int{-1, -1, -1, -1, -1, -1, -1},
			[...]ends{{-215000, -167000}, {225000, 433000}, {-197438, 154563}, {-106934, -106930}, {122703, 122706}, {1000, 1000}, {910, 1361}}},
	} {
		for i, x := range spans {
			checkAll(t, []asked{{r.p, x, r.ways[i], r.all[i]}})
		}
	}
}

// TestLevel asks where the slope is 0 everywhere: it is nowhere above 0 either, and still goes up.
func TestLevel(t *testing.T) {
	checkAll(t, []asked{
		{[]int{5}, ends{-1000, 2000}, 1, ends{5, 5}},
		{[]int{0}, ends{0, 0}, 1, ends{0, 0}},
		{[]int{5, 0}, ends{-1000, 2000}, 1, ends{5, 5}},
		{[]int{-5, 0, 0}, ends{-1000, 2000}, 1, ends{-5, -5}},
		{[]int{-5, 0, 0, 0}, ends{-1000, 2000}, 1, ends{-5, -5}},
		{[]int{5, 0, 0, 0, 0}, ends{-1000, 2000}, 1, ends{5, 5}},
		// At one number alone.
		{[]int{3, 0, 1000}, ends{0, 0}, 1, ends{3, 3}},
		{[]int{3, 0, -1000}, ends{0, 0}, 1, ends{3, 3}},
		{[]int{3, 0, 0, 1000}, ends{0, 0}, 1, ends{3, 3}},
		{[]int{2000, -3000, 1000}, ends{1500, 1500}, 1, ends{-250, -250}},
		{[]int{-2000, 3000, -1000}, ends{1500, 1500}, 1, ends{250, 250}},
		{[]int{0, -1000, 0, 0, 250}, ends{1000, 1000}, 1, ends{-750, -750}},
	})
}

// TestTouches asks where the slope is 0 at an end of the span, and where it is just beyond 0 there.
func TestTouches(t *testing.T) {
	checkAll(t, []asked{
		{[]int{0, 0, 1000}, ends{0, 1000}, 1, ends{0, 1000}},
		{[]int{0, 0, 1000}, ends{-1, 1000}, 0, ends{0, 1000}},
		{[]int{0, 0, 1000}, ends{-1000, 0}, -1, ends{0, 1000}},
		{[]int{0, 0, 1000}, ends{-1000, 1}, 0, ends{0, 1000}},
		{[]int{0, 0, -1000}, ends{0, 1000}, -1, ends{-1000, 0}},
		{[]int{0, 0, -1000}, ends{-1, 1000}, 0, ends{-1000, 0}},
		{[]int{0, 0, -1000}, ends{-1000, 0}, 1, ends{-1000, 0}},
		{[]int{0, 0, -1000}, ends{-1000, 1}, 0, ends{-1000, 0}},
		{[]int{2000, -3000, 1000}, ends{1500, 2500}, 1, ends{-250, 750}},
		{[]int{2000, -3000, 1000}, ends{1499, 2500}, 0, ends{-1001, 1002}},
		{[]int{2000, -3000, 1000}, ends{500, 1500}, -1, ends{-250, 750}},
		{[]int{2000, -3000, 1000}, ends{500, 1501}, 0, ends{-1002, 1000}},
		{[]int{-2000, 3000, -1000}, ends{1500, 2500}, -1, ends{-750, 250}},
		{[]int{-2000, 3000, -1000}, ends{1499, 2500}, 0, ends{-1002, 1001}},
		{[]int{-2000, 3000, -1000}, ends{500, 1500}, 1, ends{-750, 250}},
		{[]int{-2000, 3000, -1000}, ends{500, 1501}, 0, ends{-1000, 1002}},
		{[]int{2000, -3000, 1000}, ends{1499, 1499}, -1, ends{-250, -249}},
		{[]int{2000, -3000, 1000}, ends{1501, 1501}, 1, ends{-250, -249}},
		{[]int{2000, -3000, 1000}, ends{1499, 1501}, 0, ends{-251, -249}},
		{[]int{0, -1000, 0, 0, 250}, ends{1000, 1001}, 1, ends{-750, -747}},
		{[]int{0, -1000, 0, 0, 250}, ends{999, 1000}, -1, ends{-750, -749}},
		// By one thousandth everywhere.
		{[]int{0, 1, 0, 0, 0}, ends{-5000, 5000}, 1, ends{-5, 5}},
		{[]int{0, -1, 0, 0, 0}, ends{-5000, 5000}, -1, ends{-5, 5}},
		// Rounded to 0, and to one thousandth.
		{[]int{0, 0, 1}, ends{0, 1}, 1, ends{0, 1}},
		{[]int{0, 0, -1}, ends{0, 1}, -1, ends{-1, 0}},
		{[]int{0, 0, 1}, ends{-1, 0}, -1, ends{0, 1}},
		{[]int{0, 0, -1}, ends{-1, 0}, 1, ends{-1, 0}},
		{[]int{0, 0, 1}, ends{1, 1}, 1, ends{0, 1}},
		{[]int{0, 0, -1}, ends{1, 1}, -1, ends{-1, 0}},
		{[]int{0, 0, 1}, ends{-1, 1}, 0, ends{0, 1}},
		{[]int{0, 1, 1}, ends{-1, 1}, 1, ends{-1, 1}},
		{[]int{0, -1, 1}, ends{-1, 1}, -1, ends{-1, 1}},
	})
}

// TestSlopeIsWide asks where it goes up or down alone, but what Slope tells is too wide to show it.
func TestSlopeIsWide(t *testing.T) {
	checkAll(t, []asked{
		{[]int{0, 0, 0, 1000}, ends{-1000, 0}, 1, ends{-1000, 0}},
		{[]int{0, 0, 0, 1000}, ends{0, 1000}, 1, ends{0, 1000}},
		{[]int{0, 0, 0, 1000}, ends{-1000, 1000}, 0, ends{-1000, 1000}},
		{[]int{0, 0, 0, -1000}, ends{-1000, 0}, -1, ends{0, 1000}},
		{[]int{0, 0, 0, -1000}, ends{-1000, 1000}, 0, ends{-1000, 1000}},
		{[]int{0, 3000, -3000, 1000}, ends{0, 2000}, 0, ends{-6000, 6000}},
		{[]int{0, 3000, -3000, 1000}, ends{1000, 2000}, 0, ends{-375, 2625}},
		{[]int{0, 3000, -3000, 1000}, ends{0, 1000}, 0, ends{0, 2375}},
		// By rounding alone, at one number; Horner there is wider than Best.
		{[]int{1, 0, -7, 5, -1}, ends{2391, 2391}, 0, ends{-5, -2}},
		{[]int{7, 9, -6, 1}, ends{2943, 2943}, 0, ends{6, 9}},
		{[]int{8, -8, -3, 4}, ends{-612, -612}, 0, ends{10, 12}},
	})
}

// TestBestIsNearer asks where the ends, as Horner tells them, are further apart than Best is: they are taken all the same.
func TestBestIsNearer(t *testing.T) {
	checkAll(t, []asked{
		{[]int{9, -7, -1}, ends{-2035, -2030}, -1, ends{17, 20}},
		{[]int{3, -3, 4}, ends{2946, 2946}, 1, ends{26, 30}},
		{[]int{4, -9, 5, -1}, ends{2910, 2910}, -1, ends{-8, 4}},
		{[]int{-5, -8, -4, 5}, ends{2772, 2872}, 1, ends{39, 64}},
		{[]int{-6, 1, -9, -9, -9}, ends{2321, 2421}, -1, ends{-503, -412}},
		{[]int{0, 5, 1, 6, 6}, ends{-2065, -2065}, -1, ends{43, 60}},
		{[]int{-9, 6, -8, 0, 9}, ends{1736, 1741}, 1, ends{55, 63}},
	})
}

// TestJustFits asks where nothing is beyond what may be, but would be if it were a bit further.
func TestJustFits(t *testing.T) {
	checkAll(t, []asked{
		// One factor, whatever the span.
		{[]int{most}, ends{-most, most}, 1, ends{most, most}},
		{[]int{-most}, ends{-most, most}, 1, ends{-most, -most}},
		{[]int{-most}, ends{most, most}, 1, ends{-most, -most}},
		{[]int{0}, ends{-most, -most}, 1, ends{0, 0}},
		// Ends and factors that are the greatest and the least.
		{[]int{0, 1000}, ends{-most, most}, 1, ends{-most, most}},
		{[]int{0, -1000}, ends{-most, most}, -1, ends{-most, most}},
		{[]int{0, 1000}, ends{0, most}, 1, ends{0, most}},
		{[]int{0, 1000}, ends{most, most}, 1, ends{most, most}},
		{[]int{0, -1000}, ends{-most, -most}, -1, ends{most, most}},
		{[]int{0, -1000}, ends{most - 1, most}, -1, ends{-most, -most + 1}},
		{[]int{most, most}, ends{0, 0}, 1, ends{most, most}},
		{[]int{-most, -most}, ends{0, 0}, -1, ends{-most, -most}},
		{[]int{most, most}, ends{-1, 0}, 1, ends{999000000, most}},
		{[]int{0, most}, ends{-1000, 1000}, 1, ends{-most, most}},
		{[]int{0, -most}, ends{-1000, 1000}, -1, ends{-most, most}},
		{[]int{most, -most}, ends{1000, 1000}, -1, ends{0, 0}},
		{[]int{most, most, half, 333333333, 250000000}, ends{0, 0}, 1, ends{most, most}},
		// The slope is just still a number that may be.
		{[]int{0, 0, half}, ends{1000, 1000}, 1, ends{half, half}},
		{[]int{0, 0, half}, ends{-1000, -1000}, -1, ends{half, half}},
		{[]int{0, 0, half}, ends{0, 1000}, 1, ends{0, half}},
		{[]int{0, 0, -half}, ends{-1000, 0}, 1, ends{-half, 0}},
		{[]int{0, most - 500, 250}, ends{1000, 1000}, 1, ends{most - 250, most - 250}},
		{[]int{0, -most + 500, -250}, ends{1000, 1000}, -1, ends{-most + 250, -most + 250}},
		// What is on the way to Best is: one of its ways, or a power, which are asked though the ends tell all.
		{[]int{most - 1, -1}, ends{0, 2}, -1, ends{most - 2, most - 1}},
		{[]int{-most + 1, 1}, ends{0, 2}, 1, ends{-most + 1, -most + 2}},
		{[]int{most, -1000}, ends{0, 2}, -1, ends{most - 2, most}},
		{[]int{most, -1}, ends{0, 1}, -1, ends{most - 1, most}},
		{[]int{0, -most, half}, ends{0, 1000}, -1, ends{-half, 0}},
		{[]int{-most + 1, -1, half}, ends{1000, 1000}, 1, ends{-half, -half}},
		{[]int{-640000000, 80000000, 10000000}, ends{-4000, 1000}, 1, ends{-800000000, -550000000}},
		{[]int{0, 0, 0}, ends{1000000, 1000000}, 1, ends{0, 0}},
		{[]int{0, 0, 0, 0, 0}, ends{31622, 31622}, 1, ends{0, 0}},
		{[]int{0, 0, 500}, ends{-1000000, -1000000}, -1, ends{half, half}},
		{[]int{0, 0, 1000}, ends{-707106, 707106}, 0, ends{0, 499998896}},
	})
}

// TestSlopeFull asks where the slope is beyond what may be, and so both calls are.
func TestSlopeFull(t *testing.T) {
	checkAll(t, []asked{
		// A factor times its power.
		{[]int{0, 0, half + 1}, ends{0, 0}, fullWay, full},
		{[]int{0, 0, -half - 1}, ends{0, 0}, fullWay, full},
		{[]int{0, 0, 0, 333333334}, ends{0, 0}, fullWay, full},
		{[]int{0, 0, 0, 0, -250000001}, ends{0, 0}, fullWay, full},
		{[]int{most, most, most, most, most}, ends{0, 0}, fullWay, full},
		{[]int{-most, -most, -most, -most, -most}, ends{-most, most}, fullWay, full},
		// A product, or a sum, which it would be either way.
		{[]int{0, 0, half}, ends{1001, 1001}, fullWay, full},
		{[]int{0, 0, -half}, ends{-1001, -1001}, fullWay, full},
		{[]int{0, 0, half}, ends{0, 1001}, fullWay, full},
		{[]int{0, most - 499, 250}, ends{1000, 1000}, fullWay, full},
		{[]int{0, -most + 499, -250}, ends{1000, 1000}, fullWay, full},
		{[]int{0, -most, half}, ends{1001, 1001}, fullWay, full},
		{[]int{0, 0, 0, 1000}, ends{-most, most}, fullWay, full},
	})
}

// TestRangeFull asks where the way is told, and the range would be beyond what may be.
func TestRangeFull(t *testing.T) {
	checkAll(t, []asked{
		// It is so at an end.
		{[]int{0, 1001}, ends{most, most}, 1, full},
		{[]int{1, 1000}, ends{most, most}, 1, full},
		{[]int{-1, 1000}, ends{-most, -most}, 1, full},
		{[]int{1, 1000}, ends{0, most}, 1, full},
		{[]int{-1, 1000}, ends{-most, 0}, 1, full},
		{[]int{-1, -1000}, ends{0, most}, -1, full},
		{[]int{1, -1000}, ends{-most, 0}, -1, full},
		{[]int{most, 1}, ends{0, 2}, 1, full},
		{[]int{0, most}, ends{-1001, 1000}, 1, full},
		{[]int{0, -most}, ends{-1000, 1001}, -1, full},
		{[]int{-most, most}, ends{1001, 1001}, 1, full},
		{[]int{0, 0, 500}, ends{most, most}, 1, full},
		// It goes neither way alone, so Best is needed.
		{[]int{-half, -half, half}, ends{-1, 1000}, 0, full},
		{[]int{half, half, -half}, ends{-1, 1000}, 0, full},
		{[]int{0, 0, 1000}, ends{-707107, 707107}, 0, full},
		{[]int{0, 0, 1}, ends{-most, most}, 0, full},
	})
}

// TestBestFull asks where the ends would tell a range, and Best, which is not needed, is beyond what may be.
func TestBestFull(t *testing.T) {
	checkAll(t, []asked{
		// By Powers alone.
		{[]int{0, 0, 0}, ends{1000001, 1000001}, 1, full},
		{[]int{5, 0, 0}, ends{-most, most}, 1, full},
		{[]int{0, 0, 0, 0}, ends{-100001, 0}, 1, full},
		{[]int{0, 0, 0, 0, 0}, ends{31623, 31623}, 1, full},
		{[]int{0, 1000, 0}, ends{1000001, 1000001}, 1, full},
		{[]int{0, -1000, 0}, ends{-1000001, -1000001}, -1, full},
		{[]int{-most, -1, half}, ends{1000, 1000}, 1, full},
		{[]int{most, 1, -half}, ends{1000, 1000}, -1, full},
		// By chapter 5's Range alone.
		{[]int{most, -1}, ends{0, 2}, -1, full},
		{[]int{-most, 1}, ends{0, 2}, 1, full},
		// By Horner over the span alone.
		{[]int{-650000000, 80000000, 10000000}, ends{-4000, 1000}, 1, full},
		{[]int{650000000, -80000000, -10000000}, ends{-4000, 1000}, -1, full},
		{[]int{-650000000, -80000000, 10000000}, ends{-1000, 4000}, -1, full},
		// By Horner and Powers.
		{[]int{-1, -most, half}, ends{0, 1000}, -1, full},
		{[]int{1, most, -half}, ends{0, 1000}, 1, full},
	})
}

func TestWrong(t *testing.T) {
	for _, w := range wrongPolys {
		for _, x := range []ends{{0, 0}, {1000, 2000}, {-most, most}} {
			checkWrong(t, w.p, x.span(), w.told)
		}
		// What is wrong with the polynomial is told ahead of what is wrong with the span.
		for _, x := range wrongSpans {
			checkWrong(t, w.p, x.x.span(), w.told)
		}
	}
	for _, x := range wrongSpans {
		// Also where the slope is 0 whatever the span; and ahead of what would be beyond what may be.
		for _, p := range [][]int{{0}, {1000}, {0, 0}, {1000, -3000, 2000}, {1, 2, 3, 4, 5}, {0, 0, half + 1}, {0, 0, 0, 0, -most}, {most, most, most}} {
			checkWrong(t, p, x.x.span(), x.told)
		}
	}
}

// meantWay is what the document says of Way, by chapter 5's Slope.
func meantWay(p []int, x api.Span) (int, error) {
	s, err := center.Slope(p, x)
	switch {
	case err != nil:
		return 0, err
	case min(s.Lo, 0) == 0:
		return 1, nil
	case max(s.Hi, 0) == 0:
		return -1, nil
	}
	return 0, nil
}

// meantRange is what the document says of Range, by chapter 4's Horner and chapter 5's Best.
func meantRange(p []int, x api.Span) (api.Span, error) {
	best, err := center.Best(p, x)
	way, _ := meantWay(p, x)
	if err != nil || way == 0 {
		return best, err
	}
	// Nothing is wrong at the ends where Best tells nothing.
	low, _ := poly.Horner(p, api.Span{Lo: x.Lo, Hi: x.Lo})
	high, _ := poly.Horner(p, api.Span{Lo: x.Hi, Hi: x.Hi})
	if way < 0 {
		low, high = high, low
	}
	return api.Span{Lo: low.Lo, Hi: high.Hi}, nil
}

// checkMeant asks both calls, and holds them against what is meant.
func checkMeant(t *testing.T, p []int, x api.Span) {
	t.Helper()
	way, err := meantWay(p, x)
	checkWay(t, p, x, way, plain.Told(err))
	all, err := meantRange(p, x)
	checkRange(t, p, x, all, plain.Told(err))
}

// TestAllOfEdges goes over polynomials whose factors, and spans whose ends, are of numbers at which something turns.
func TestAllOfEdges(t *testing.T) {
	factors := []int{-most, -half - 1, -1, 0, 1000, 31623, half}
	spanEnds := []int{math.MinInt, -most - 1, -most, -1000001, -100001, -31623, -1001, -1, 0, 1, 1000, 31622, 1000000, most, most + 1, math.MaxInt}
	polys := [][]int{nil, {0, 0, 0, 0, 0, 0}, {0, most + 1}, {math.MinInt, 0, 0}}
	longer := [][]int{nil}
	for range 3 {
		longer = withOneMore(longer, factors)
		polys = append(polys, longer...)
	}
	// Of four and five factors only some, as there are many.
	polys = append(polys, withOneMore(longer, []int{-7, 333333333})...)
	polys = append(polys, withOneMore(withOneMore(longer, []int{0}), []int{1, -most / 4})...)
	for _, p := range polys {
		for _, lo := range spanEnds {
			for _, hi := range spanEnds {
				checkMeant(t, p, api.Span{Lo: lo, Hi: hi})
			}
		}
	}
}

// withOneMore gives each list with each number behind it.
func withOneMore(lists [][]int, numbers []int) [][]int {
	var longer [][]int
	for _, l := range lists {
		for _, n := range numbers {
			longer = append(longer, append(slices.Clone(l), n))
		}
	}
	return longer
}

// ordinary are polynomials that are beyond what may be nowhere near 0.
var ordinary = [][]int{
	{7}, {-1000, 1}, {1, -2, 3}, {2000, -3000, 1000}, {0, 0, 2000, 1000}, {-500, 1500, -2500, 3500},
	{0, 0, 0, 0, 1}, {1000, 0, -2000, 0, 1000}, {777, -333, 0, 1111, -999}, {-1, -2, -3, -4, -5},
	{7000, 30000, -2000, 1000}, {1000, -90000, 3000, -2000, 1000},
}

// eachOrdinary asks each of them over spans below 0, above it and across it.
func eachOrdinary(ask func(p []int, x api.Span)) {
	for _, p := range ordinary {
		for lo := -3000; lo <= 3000; lo += 371 {
			for hi := lo; hi <= 3000; hi += 371 {
				ask(p, api.Span{Lo: lo, Hi: hi})
			}
		}
	}
}

// TestOrdinary holds both calls against what is meant, and sees that each way is gone.
func TestOrdinary(t *testing.T) {
	gone := map[int]int{}
	eachOrdinary(func(p []int, x api.Span) {
		checkMeant(t, p, x)
		way, _ := mono.Way(p, x)
		gone[way]++
	})
	if gone[1] == 0 || gone[-1] == 0 || gone[0] == 0 || len(gone) != 3 {
		t.Errorf("how often each way is gone: %v", gone)
	}
}

// TestIn asks whether what a polynomial is at each number of a span is in its Range.
func TestIn(t *testing.T) {
	eachOrdinary(func(p []int, x api.Span) {
		s, err := mono.Range(p, x)
		if err != nil {
			t.Errorf("Range(%v, %v): %v", p, x, err)
		}
		for at := x.Lo; at <= x.Hi; at += 53 {
			if is := exactly(p, at); is < s.Lo*scale || is > s.Hi*scale {
				t.Errorf("Range(%v, %v) = %v, and what it is at %d is not in that", p, x, s, at)
			}
		}
	})
}

// TestAlone asks whether a polynomial never falls where its Way is up, and never rises where it is down.
func TestAlone(t *testing.T) {
	eachOrdinary(func(p []int, x api.Span) {
		way, err := mono.Way(p, x)
		if err != nil {
			t.Errorf("Way(%v, %v): %v", p, x, err)
		}
		for at := x.Lo; at < x.Hi; at += 7 {
			if rise := exactly(p, at+1) - exactly(p, at); rise*way < 0 {
				t.Errorf("Way(%v, %v) = %d, and it goes the other way from %d on", p, x, way, at)
			}
		}
	})
}

// TestNoWider asks whether a Range is never wider than Horner over the whole span.
func TestNoWider(t *testing.T) {
	eachOrdinary(func(p []int, x api.Span) {
		s, _ := mono.Range(p, x)
		if h, _ := poly.Horner(p, x); s.Lo < h.Lo || s.Hi > h.Hi {
			t.Errorf("Range(%v, %v) = %v; Horner is %v", p, x, s, h)
		}
	})
}

// scale is how many of what exactly tells are a thousandth: enough for the greatest power.
const scale = 1000 * 1000 * 1000 * 1000

// exactly is what a polynomial of small factors is at a small number, without rounding.
func exactly(p []int, at int) int {
	sum, weight := 0, scale
	power := 1
	for _, f := range p {
		sum += f * power * weight
		power *= at
		weight /= 1000
	}
	return sum
}

// FuzzOver holds any polynomial over any span against what is meant.
func FuzzOver(f *testing.F) {
	f.Add(uint8(3), 2000, -3000, 1000, 0, 0, 528, 528)
	f.Add(uint8(5), 2, 0, 2024, -1, 2000, 2000, 2006)
	f.Add(uint8(6), 0, 0, 0, 0, math.MinInt, 1, 0)
	f.Fuzz(func(t *testing.T, count uint8, a, b, c, d, e, lo, hi int) {
		for _, bound := range []int{math.MaxInt, most + 2, 40000, 3000} {
			// Most ints are none that may be, and most products are beyond it, so they are brought near as well.
			near := []int{a % bound, b % bound, c % bound, d % bound, e % bound, a % bound}
			p := near[:int(count)%(len(near)+1)]
			checkMeant(t, p, api.Span{Lo: lo % bound, Hi: hi % bound})
			checkMeant(t, p, api.Span{Lo: min(lo%bound, hi%bound), Hi: max(lo%bound, hi%bound)})
		}
	})
}
