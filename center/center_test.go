package center_test

import (
	"math"
	"slices"
	"testing"

	"spanmeadow/api"
	"spanmeadow/center"
	"spanmeadow/plain"
	"spanmeadow/poly"
)

// most is the greatest number that may be, and half the half of it.
const (
	most = api.MaxNumber
	half = most / 2
)

// behind is what is laid behind a list's length, to tell whether it is written over.
const behind = 4711

// ends of a span.
type ends [2]int

// full stands for what would be beyond what may be; no span has such ends.
var full = ends{1, -1}

func (e ends) span() api.Span { return api.Span{Lo: e[0], Hi: e[1]} }

// overSpan is a call of a polynomial and a span.
type overSpan = func(p []int, x api.Span) (api.Span, error)

// calls are those of the chapter.
var calls = []struct {
	name string
	call overSpan
}{
	{"Slope", center.Slope},
	{"Range", center.Range},
	{"Best", center.Best},
}

// wrongPolys are polynomials with a fault, and which; where several are wrong with one, what is told first.
var wrongPolys = []struct {
	p    []int
	told api.Errno
}{
	{nil, api.ErrNone},
	{[]int{}, api.ErrNone},
	{[]int{1, 2, 3, 4, 5}[:0], api.ErrNone},
	{[]int{0, 0, 0, 0, 0, 0}, api.ErrFull},
	{[]int{1000, 1000, 1000, 1000, 1000, 1000}, api.ErrFull},
	{make([]int, 1000), api.ErrFull},
	{[]int{most + 1}, api.ErrRange},
	{[]int{-most - 1}, api.ErrRange},
	{[]int{math.MinInt}, api.ErrRange},
	{[]int{math.MaxInt}, api.ErrRange},
	// Each place alone; the first one is not in what is derived.
	{[]int{most + 1, 0, 0, 0, 0}, api.ErrRange},
	{[]int{0, -most - 1, 0, 0, 0}, api.ErrRange},
	{[]int{0, 0, math.MaxInt, 0, 0}, api.ErrRange},
	{[]int{0, 0, 0, math.MinInt, 0}, api.ErrRange},
	{[]int{0, 0, 0, 0, most + 1}, api.ErrRange},
	// Their sums, and what they are times their powers, wrap round.
	{[]int{math.MaxInt, math.MaxInt}, api.ErrRange},
	{[]int{math.MinInt, math.MinInt, math.MinInt, math.MinInt, math.MinInt}, api.ErrRange},
	{[]int{0, 0, 0, 0, 1 << 62}, api.ErrRange},
	// Too many, and one that may not be: the many are told first.
	{[]int{most + 1, 0, 0, 0, 0, 0}, api.ErrFull},
	{[]int{0, 0, 0, 0, 0, math.MinInt}, api.ErrFull},
	// Derived, one would be beyond what may be as well.
	{[]int{most + 1, 0, most}, api.ErrRange},
}

// wrongSpans are spans with a fault, and which.
var wrongSpans = []struct {
	x    ends
	told api.Errno
}{
	{ends{1, 0}, api.ErrShape},
	{ends{0, -1}, api.ErrShape},
	{ends{most, -most}, api.ErrShape},
	{ends{-most + 1, -most}, api.ErrShape},
	{ends{0, most + 1}, api.ErrRange},
	{ends{-most - 1, 0}, api.ErrRange},
	{ends{most + 1, 0}, api.ErrRange},
	{ends{0, -most - 1}, api.ErrRange},
	// The middle of these may be, if their sum does not wrap round.
	{ends{-most - 1, most + 1}, api.ErrRange},
	{ends{math.MinInt, math.MaxInt}, api.ErrRange},
	{ends{math.MaxInt, math.MinInt}, api.ErrRange},
	{ends{math.MinInt, math.MinInt}, api.ErrRange},
	{ends{math.MaxInt, math.MaxInt}, api.ErrRange},
}

// handed is a list for a call, with memory behind its length; unchanged tells whether all of it is as it was.
func handed(p []int) (list []int, unchanged func() bool) {
	// Without memory nil stays nil, so that it is asked too.
	if p == nil {
		return nil, func() bool { return true }
	}
	whole := append(slices.Clone(p), behind, behind)
	before := slices.Clone(whole)
	return whole[:len(p)], func() bool { return slices.Equal(whole, before) }
}

func checkOver(t *testing.T, name string, call overSpan, p []int, x, want api.Span, told api.Errno) {
	t.Helper()
	list, unchanged := handed(p)
	got, err := call(list, x)
	if got != want || plain.Told(err) != told {
		t.Errorf("%s(%v, %v) = %v, %v; want %v, %v", name, p, x, got, err, want, told)
	}
	if !unchanged() {
		t.Errorf("%s(%v, %v) changed what it was handed", name, p, x)
	}
}

// checkWrong asks all calls of what is wrong.
func checkWrong(t *testing.T, p []int, x api.Span, told api.Errno) {
	t.Helper()
	for _, c := range calls {
		checkOver(t, c.name, c.call, p, x, api.Span{}, told)
	}
}

// asked is a polynomial over a span, and what comes of it; around is that of Range.
type asked struct {
	p                   []int
	x                   ends
	slope, around, best ends
}

func checkAll(t *testing.T, all []asked) {
	t.Helper()
	for _, a := range all {
		for i, want := range []ends{a.slope, a.around, a.best} {
			told := api.OK
			if want == full {
				want, told = ends{}, api.ErrFull
			}
			checkOver(t, calls[i].name, calls[i].call, a.p, a.x.span(), want.span(), told)
		}
	}
}

// TestOver asks polynomials of one to five factors over spans above 0, below it, across it, of one number, of 0, and of a middle that is rounded.
func TestOver(t *testing.T) {
	spans := [...]ends{{2000, 3000}, {-3000, -2000}, {-1500, 2500}, {1234, 1234}, {-1234, -1234}, {0, 0}, {-4, 1}}
	for _, r := range []struct {
		p                   []int
		slope, around, best [len(spans)]ends
	}{
		{[]int{5000},
			[...]ends{{0, 0}, {0, 0}, {0, 0}, {0, 0}, {0, 0}, {0, 0}, {0, 0}},
			[...]ends{{5000, 5000}, {5000, 5000}, {5000, 5000}, {5000, 5000}, {5000, 5000}, {5000, 5000}, {5000, 5000}},
			[...]ends{{5000, 5000}, {5000, 5000}, {5000, 5000}, {5000, 5000}, {5000, 5000}, {5000, 5000}, {5000, 5000}}},
		{[]int{-7},
			[...]ends{{0, 0}, {0, 0}, {0, 0}, {0, 0}, {0, 0}, {0, 0}, {0, 0}},
			[...]ends{{-7, -7}, {-7, -7}, {-7, -7}, {-7, -7}, {-7, -7}, {-7, -7}, {-7, -7}},
			[...]ends{{-7, -7}, {-7, -7}, {-7, -7}, {-7, -7}, {-7, -7}, {-7, -7}, {-7, -7}}},
		{[]int{0, 0, 0, 0, 0},
			[...]ends{{0, 0}, {0, 0}, {0, 0}, {0, 0}, {0, 0}, {0, 0}, {0, 0}},
			[...]ends{{0, 0}, {0, 0}, {0, 0}, {0, 0}, {0, 0}, {0, 0}, {0, 0}},
			[...]ends{{0, 0}, {0, 0}, {0, 0}, {0, 0}, {0, 0}, {0, 0}, {0, 0}}},
		{[]int{1000, 2000},
			[...]ends{{2000, 2000}, {2000, 2000}, {2000, 2000}, {2000, 2000}, {2000, 2000}, {2000, 2000}, {2000, 2000}},
			[...]ends{{5000, 7000}, {-5000, -3000}, {-2000, 6000}, {3468, 3468}, {-1468, -1468}, {1000, 1000}, {992, 1002}},
			[...]ends{{5000, 7000}, {-5000, -3000}, {-2000, 6000}, {3468, 3468}, {-1468, -1468}, {1000, 1000}, {992, 1002}}},
		{[]int{-1000, -2000},
			[...]ends{{-2000, -2000}, {-2000, -2000}, {-2000, -2000}, {-2000, -2000}, {-2000, -2000}, {-2000, -2000}, {-2000, -2000}},
			[...]ends{{-7000, -5000}, {3000, 5000}, {-6000, 2000}, {-3468, -3468}, {1468, 1468}, {-1000, -1000}, {-1002, -992}},
			[...]ends{{-7000, -5000}, {3000, 5000}, {-6000, 2000}, {-3468, -3468}, {1468, 1468}, {-1000, -1000}, {-1002, -992}}},
		{[]int{0, 0, 1000},
			[...]ends{{4000, 6000}, {-6000, -4000}, {-3000, 5000}, {2468, 2468}, {-2468, -2468}, {0, 0}, {-8, 2}},
			[...]ends{{3250, 9250}, {3250, 9250}, {-9750, 10250}, {1522, 1523}, {1522, 1523}, {0, 0}, {-1, 2}},
			[...]ends{{4000, 9000}, {4000, 9000}, {0, 6250}, {1522, 1523}, {1522, 1523}, {0, 0}, {0, 1}}},
		{[]int{2000, -3000, 1000},
			[...]ends{{1000, 3000}, {-9000, -7000}, {-6000, 2000}, {-532, -532}, {-5468, -5468}, {-3000, -3000}, {-3008, -2998}},
			[...]ends{{-750, 2250}, {11250, 20250}, {-11250, 12750}, {-180, -179}, {7224, 7225}, {2000, 2000}, {1996, 2014}},
			[...]ends{{-750, 2000}, {12000, 20000}, {-5500, 8750}, {-180, -179}, {7224, 7225}, {2000, 2000}, {1997, 2013}}},
		{[]int{-2000, 3000, -1000},
			[...]ends{{-3000, -1000}, {7000, 9000}, {-2000, 6000}, {532, 532}, {5468, 5468}, {3000, 3000}, {2998, 3008}},
			[...]ends{{-2250, 750}, {-20250, -11250}, {-12750, 11250}, {179, 180}, {-7225, -7224}, {-2000, -2000}, {-2014, -1996}},
			[...]ends{{-2000, 750}, {-20000, -12000}, {-8750, 5500}, {179, 180}, {-7225, -7224}, {-2000, -2000}, {-2013, -1997}}},
		{[]int{1, -2, 3, -4},
			[...]ends{{-92, -38}, {-128, -62}, {-62, 58}, {-14, -11}, {-28, -26}, {-2, -2}, {-3, -1}},
			[...]ends{{-95, 0}, {22, 153}, {-124, 125}, {-6, -2}, {13, 16}, {1, 1}, {0, 3}},
			[...]ends{{-86, -23}, {49, 142}, {-49, 37}, {-6, -3}, {14, 16}, {1, 1}, {0, 2}}},
		{[]int{-500, 1500, -2500, 3500},
			[...]ends{{33500, 81000}, {53500, 111000}, {-50375, 54625}, {11318, 11319}, {23658, 23659}, {1500, 1500}, {1494, 1521}},
			[...]ends{{1812, 82813}, {-130063, -19062}, {-109188, 109313}, {4120, 4122}, {-12736, -12733}, {-500, -500}, {-508, -498}},
			[...]ends{{20500, 76000}, {-122000, -41500}, {-30188, 42313}, {4120, 4122}, {-12736, -12733}, {-500, -500}, {-507, -498}}},
		{[]int{0, 0, 0, 0, 1000},
			[...]ends{{32000, 108000}, {-108000, -32000}, {-37500, 62500}, {7516, 7518}, {-7518, -7516}, {0, 0}, {-1, 1}},
			[...]ends{{-14938, 93063}, {-14938, 93063}, {-124938, 125063}, {2317, 2320}, {2317, 2320}, {0, 0}, {-1, 2}},
			[...]ends{{16000, 81000}, {16000, 81000}, {0, 39063}, {2317, 2320}, {2317, 2320}, {0, 0}, {0, 1}}},
		{[]int{-1, -2, -3, -4, -5},
			[...]ends{{-668, -222}, {122, 448}, {-405, 240}, {-67, -63}, {22, 27}, {-2, -2}, {-3, -1}},
			[...]ends{{-628, 61}, {-383, 86}, {-814, 807}, {-30, -25}, {-10, -5}, {-1, -1}, {-2, 1}},
			[...]ends{{-547, -129}, {-319, -57}, {-284, 16}, {-29, -25}, {-9, -5}, {-1, -1}, {-2, 0}}},
		{[]int{777, -333, 0, 1111, -999},
			[...]ends{{-78228, -18969}, {44967, 137556}, {-41941, 57962}, {-2769, -2765}, {12250, 12254}, {-333, -333}, {-334, -332}},
			[...]ends{{-60845, 17404}, {-123564, 14013}, {-115238, 116611}, {135, 141}, {-3218, -3213}, {777, 777}, {775, 779}},
			[...]ends{{-51144, -6985}, {-109140, -23429}, {-24526, 18637}, {135, 141}, {-3218, -3213}, {777, 777}, {776, 779}}},
		{[]int{-1000000, 2000000, -3000000, 4000000, -5000000},
			[...]ends{{-448000000, -122000000}, {222000000, 668000000}, {-250500000, 249500000}, {-24712547, -24712546}, {65258690, 65258691}, {2000000, 2000000}, {1993951, 2024194}},
			[...]ends{{-371562500, 76437500}, {-616562500, 51437500}, {-501562500, 500437500}, {-7177875, -7177872}, {-27146522, -27146520}, {-1000000, -1000000}, {-1008062, -997939}},
			[...]ends{{-319000000, -57000000}, {-547000000, -129000000}, {-147562500, 66500000}, {-7177875, -7177872}, {-27146522, -27146520}, {-1000000, -1000000}, {-1008049, -997987}}},
	} {
		for i, x := range spans {
			checkAll(t, []asked{{r.p, x, r.slope[i], r.around[i], r.best[i]}})
		}
	}
}

// TestJustFits asks where nothing is beyond what may be, but would be if it were a bit further.
func TestJustFits(t *testing.T) {
	checkAll(t, []asked{
		// One factor, whatever the span.
		{[]int{most}, ends{-most, most}, ends{0, 0}, ends{most, most}, ends{most, most}},
		{[]int{-most}, ends{-most, most}, ends{0, 0}, ends{-most, -most}, ends{-most, -most}},
		{[]int{-most}, ends{most, most}, ends{0, 0}, ends{-most, -most}, ends{-most, -most}},
		{[]int{0}, ends{-most, -most}, ends{0, 0}, ends{0, 0}, ends{0, 0}},
		// Ends and factors that are the greatest and the least.
		{[]int{0, 1000}, ends{-most, most}, ends{1000, 1000}, ends{-most, most}, ends{-most, most}},
		{[]int{0, -1000}, ends{-most, most}, ends{-1000, -1000}, ends{-most, most}, ends{-most, most}},
		{[]int{0, 1000}, ends{0, most}, ends{1000, 1000}, ends{0, most}, ends{0, most}},
		{[]int{0, 1000}, ends{most, most}, ends{1000, 1000}, ends{most, most}, ends{most, most}},
		{[]int{0, 1000}, ends{-most, -most}, ends{1000, 1000}, ends{-most, -most}, ends{-most, -most}},
		{[]int{0, -1000}, ends{most - 1, most}, ends{-1000, -1000}, ends{-most, -most + 1}, ends{-most, -most + 1}},
		{[]int{0, 1000}, ends{-most, -most + 1}, ends{1000, 1000}, ends{-most, -most + 1}, ends{-most, -most + 1}},
		{[]int{most, most}, ends{0, 0}, ends{most, most}, ends{most, most}, ends{most, most}},
		{[]int{-most, -most}, ends{0, 0}, ends{-most, -most}, ends{-most, -most}, ends{-most, -most}},
		{[]int{most, most}, ends{-1, 0}, ends{most, most}, ends{999000000, most}, ends{999000000, most}},
		{[]int{0, most}, ends{-1000, 1000}, ends{most, most}, ends{-most, most}, ends{-most, most}},
		{[]int{most, -most}, ends{1000, 1000}, ends{-most, -most}, ends{0, 0}, ends{0, 0}},
		{[]int{most, most, half, 333333333, 250000000}, ends{0, 0}, ends{most, most}, ends{most, most}, ends{most, most}},
		// What is told is just still a number that may be: the Slope, the Range, or what is on the way to Best.
		{[]int{0, 0, half}, ends{1000, 1000}, ends{most, most}, ends{half, half}, ends{half, half}},
		{[]int{0, 0, half}, ends{-1000, -1000}, ends{-most, -most}, ends{half, half}, ends{half, half}},
		{[]int{0, 0, -half}, ends{-1000, 0}, ends{0, most}, ends{-625000000, 375000000}, ends{-half, 0}},
		{[]int{0, most - 500, 250}, ends{1000, 1000}, ends{most, most}, ends{most - 250, most - 250}, ends{most - 250, most - 250}},
		{[]int{0, -most + 500, -250}, ends{1000, 1000}, ends{-most, -most}, ends{-most + 250, -most + 250}, ends{-most + 250, -most + 250}},
		{[]int{0, 0, 1000}, ends{-707106, 707106}, ends{-1414212, 1414212}, ends{-999997791, 999997791}, ends{0, 499998896}},
		{[]int{most - 1, -1}, ends{0, 2}, ends{-1, -1}, ends{most - 3, most}, ends{most - 2, most - 1}},
		{[]int{-most + 1, 1}, ends{0, 2}, ends{1, 1}, ends{-most, -most + 3}, ends{-most + 1, -most + 2}},
		{[]int{most, -1000}, ends{0, 2}, ends{-1000, -1000}, ends{most - 2, most}, ends{most - 2, most}},
		{[]int{most, -1}, ends{0, 1}, ends{-1, -1}, ends{most - 1, most}, ends{most - 1, most}},
		{[]int{most, -1000}, ends{2, 2}, ends{-1000, -1000}, ends{most - 2, most - 2}, ends{most - 2, most - 2}},
		{[]int{-half, -half, half}, ends{0, 1000}, ends{-half, half}, ends{-875000000, -375000000}, ends{-875000000, -half}},
		{[]int{0, -most, half}, ends{0, 1000}, ends{-most, 0}, ends{-875000000, 125000000}, ends{-875000000, 0}},
		{[]int{-most + 1, -1, half}, ends{1000, 1000}, ends{most - 1, most - 1}, ends{-half, -half}, ends{-half, -half}},
		{[]int{most - 1, 1, -half}, ends{1000, 1000}, ends{-most + 1, -most + 1}, ends{half, half}, ends{half, half}},
		{[]int{0, 0, 0}, ends{1000000, 1000000}, ends{0, 0}, ends{0, 0}, ends{0, 0}},
		{[]int{0, 0, 0, 0, 0}, ends{31622, 31622}, ends{0, 0}, ends{0, 0}, ends{0, 0}},
	})
}

// TestSlopeFull asks where Slope is beyond what may be, and so Range and Best are.
func TestSlopeFull(t *testing.T) {
	checkAll(t, []asked{
		// A factor times its power: with each power, over a span at which all else is 0, and with all factors.
		{[]int{0, 0, half + 1}, ends{0, 0}, full, full, full},
		{[]int{0, 0, -half - 1}, ends{0, 0}, full, full, full},
		{[]int{0, 0, 0, 333333334}, ends{0, 0}, full, full, full},
		{[]int{0, 0, 0, -333333334}, ends{0, 0}, full, full, full},
		{[]int{0, 0, 0, 0, 250000001}, ends{0, 0}, full, full, full},
		{[]int{0, 0, 0, 0, -250000001}, ends{0, 0}, full, full, full},
		{[]int{0, 0, most, 0, 0}, ends{0, 0}, full, full, full},
		{[]int{most, most, most, most, most}, ends{0, 0}, full, full, full},
		{[]int{-most, -most, -most, -most, -most}, ends{-most, most}, full, full, full},
		// A product on the way: neither Horner nor Powers of the polynomial itself is beyond what may be.
		{[]int{0, 0, half}, ends{1001, 1001}, full, full, full},
		{[]int{0, 0, -half}, ends{-1001, -1001}, full, full, full},
		{[]int{0, 0, half}, ends{-1001, 0}, full, full, full},
		{[]int{0, 0, half}, ends{0, 1001}, full, full, full},
		// A sum, likewise.
		{[]int{0, most - 499, 250}, ends{1000, 1000}, full, full, full},
		{[]int{0, -most + 499, -250}, ends{1000, 1000}, full, full, full},
		{[]int{0, most - 499, 250}, ends{0, 1000}, full, full, full},
		// Only on the way: what is added behind would bring it back.
		{[]int{0, -most, half}, ends{1001, 1001}, full, full, full},
		{[]int{0, most, -half}, ends{1001, 1001}, full, full, full},
	})
}

// TestRangeFull asks where Slope is not beyond what may be, and Range is, and so Best is.
func TestRangeFull(t *testing.T) {
	checkAll(t, []asked{
		// At the middle.
		{[]int{0, 1001}, ends{most, most}, ends{1001, 1001}, full, full},
		{[]int{1, 1000}, ends{most, most}, ends{1000, 1000}, full, full},
		{[]int{-1, 1000}, ends{-most, -most}, ends{1000, 1000}, full, full},
		{[]int{most, 1000}, ends{2, 2}, ends{1000, 1000}, full, full},
		{[]int{most, 1}, ends{0, 2}, ends{1, 1}, full, full},
		{[]int{0, 0, 500}, ends{most, most}, ends{most, most}, full, full},
		{[]int{0, 0, 1}, ends{most, most}, ends{2000000, 2000000}, full, full},
		// At the middle, only on the way: what is added behind would bring it back.
		{[]int{-most, most}, ends{1001, 1001}, ends{most, most}, full, full},
		{[]int{most, -most}, ends{1001, 1001}, ends{-most, -most}, full, full},
		// The Slope times how far the span goes: neither Horner nor Powers is beyond what may be.
		{[]int{0, 0, 1000}, ends{-707107, 707107}, ends{-1414214, 1414214}, full, full},
		{[]int{0, 0, -1000}, ends{-707107, 707107}, ends{-1414214, 1414214}, full, full},
		{[]int{0, 0, 1000}, ends{-1000000, 1000000}, ends{-2000000, 2000000}, full, full},
		// By one end alone, as the middle is rounded down.
		{[]int{0, most}, ends{-1001, 1000}, ends{most, most}, full, full},
		{[]int{0, -most}, ends{-1001, 1000}, ends{-most, -most}, full, full},
		// The sum of both, likewise: by rounding alone.
		{[]int{most, -1}, ends{0, 2}, ends{-1, -1}, full, full},
		{[]int{-most, 1}, ends{0, 2}, ends{1, 1}, full, full},
	})
}

// TestBestFull asks where neither Slope nor Range is beyond what may be, and Best is.
func TestBestFull(t *testing.T) {
	checkAll(t, []asked{
		// Horner alone.
		{[]int{-half, -half, half}, ends{-1, 1000}, ends{-501000000, half}, ends{-876000500, -374499500}, full},
		{[]int{half, half, -half}, ends{-1, 1000}, ends{-half, 501000000}, ends{374499500, 876000500}, full},
		// Powers alone: a power ahead of a factor that is 0, and a sum ahead of what would bring it back.
		{[]int{0, 0, 0}, ends{1000001, 1000001}, ends{0, 0}, ends{0, 0}, full},
		{[]int{5, 0, 0}, ends{-most, most}, ends{0, 0}, ends{5, 5}, full},
		{[]int{0, 0, 0, 0}, ends{-100001, 0}, ends{0, 0}, ends{0, 0}, full},
		{[]int{0, 0, 0, 0, 0}, ends{31623, 31623}, ends{0, 0}, ends{0, 0}, full},
		{[]int{-most, -1, half}, ends{1000, 1000}, ends{most - 1, most - 1}, ends{-half - 1, -half - 1}, full},
		{[]int{most, 1, -half}, ends{1000, 1000}, ends{-most + 1, -most + 1}, ends{half + 1, half + 1}, full},
		// Both of them, and Range is not.
		{[]int{-1, -most, half}, ends{0, 1000}, ends{-most, 0}, ends{-875000001, 124999999}, full},
		{[]int{1, most, -half}, ends{0, 1000}, ends{0, most}, ends{-124999999, 875000001}, full},
		{[]int{half, -34391274, 349}, ends{0, 42609}, ends{-34391274, -34361532}, ends{-965219400, 500158418}, full},
	})
}

// TestMiddleRounded asks spans that have no number in their middle: the one below it is taken, also below 0.
func TestMiddleRounded(t *testing.T) {
	checkAll(t, []asked{
		{[]int{0, 0, 1000000}, ends{0, 1}, ends{0, 2000}, ends{0, 2}, ends{0, 1}},
		{[]int{0, 0, 1000000}, ends{-1, 0}, ends{-2000, 0}, ends{-1, 1}, ends{0, 1}},
		{[]int{0, 0, 1000000}, ends{-3, 0}, ends{-6000, 0}, ends{-8, 10}, ends{0, 9}},
		{[]int{0, 0, 1000000}, ends{-2, 1}, ends{-4000, 2000}, ends{-7, 5}, ends{0, 4}},
		{[]int{0, 0, 1000000}, ends{-1, 2}, ends{-2000, 4000}, ends{-4, 8}, ends{0, 4}},
		{[]int{0, 0, 1000000}, ends{0, 3}, ends{0, 6000}, ends{-5, 13}, ends{0, 9}},
		{[]int{0, 0, 1000000}, ends{-3, -2}, ends{-6000, -4000}, ends{3, 9}, ends{4, 9}},
		{[]int{0, 0, 1000000}, ends{2, 3}, ends{4000, 6000}, ends{4, 10}, ends{4, 9}},
		{[]int{0, 1, 2, 3, 4}, ends{-1, 0}, ends{0, 1}, ends{-1, 1}, ends{-1, 0}},
		{[]int{0, 1, 2, 3, 4}, ends{0, 3}, ends{1, 2}, ends{-1, 2}, ends{0, 1}},
		{[]int{0, 1, 2, 3, 4}, ends{-3, -2}, ends{0, 1}, ends{-1, 1}, ends{-1, 0}},
		{[]int{-7000, 5000, -3000}, ends{-1001, -1000}, ends{11000, 11006}, ends{-15012, -14999}, ends{-15012, -15000}},
		{[]int{-7000, 5000, -3000}, ends{1000, 1001}, ends{-1006, -1000}, ends{-5002, -5000}, ends{-5002, -5000}},
		{[]int{-7000, 5000, -3000}, ends{-1000, 1001}, ends{-1006, 11000}, ends{-18000, 4011}, ends{-15000, -1995}},
		{[]int{-7000, 5000, -3000}, ends{-1001, 1000}, ends{-1000, 11006}, ends{-18012, 4013}, ends{-15012, -2000}},
	})
}

func TestWrong(t *testing.T) {
	for _, w := range wrongPolys {
		for _, x := range []ends{{0, 0}, {1000, 2000}, {-most, most}} {
			checkWrong(t, w.p, x.span(), w.told)
		}
		// What is wrong with the polynomial is told ahead of what is wrong with the span.
		for _, x := range wrongSpans {
			checkWrong(t, w.p, x.x.span(), w.told)
		}
	}
	for _, x := range wrongSpans {
		// Also where no factor is times x; and ahead of what would be beyond what may be, also of factors alone.
		for _, p := range [][]int{{0}, {1000}, {0, 0}, {1000, -3000, 2000}, {1, 2, 3, 4, 5}, {0, 0, half + 1}, {0, 0, 0, 0, -most}, {most, most, most}} {
			checkWrong(t, p, x.x.span(), x.told)
		}
	}
}

// reckoned is a span, or what would be beyond what may be.
type reckoned struct {
	lo, hi int
	full   bool
}

// within is a span of two ends that may be beyond what may be.
func within(lo, hi int) reckoned {
	if min(lo, hi) < -most || max(lo, hi) > most {
		return reckoned{full: true}
	}
	return reckoned{lo: lo, hi: hi}
}

func (r reckoned) add(o reckoned) reckoned {
	if r.full || o.full {
		return reckoned{full: true}
	}
	return within(r.lo+o.lo, r.hi+o.hi)
}

func (r reckoned) times(o reckoned) reckoned {
	if r.full || o.full {
		return reckoned{full: true}
	}
	products := []int{r.lo * o.lo, r.lo * o.hi, r.hi * o.lo, r.hi * o.hi}
	return within(down(slices.Min(products)), up(slices.Max(products)))
}

func (r reckoned) meet(o reckoned) reckoned {
	if r.full || o.full {
		return reckoned{full: true}
	}
	return within(max(r.lo, o.lo), min(r.hi, o.hi))
}

// down is a number of thousandths of thousandths, rounded down to thousandths.
func down(n int) int {
	return (n - (n%1000+1000)%1000) / 1000
}

// up is likewise rounded up.
func up(n int) int {
	return -down(-n)
}

// meantHorner is what the document says of chapter 4's Horner, of what is not wrong.
func meantHorner(p []int, x reckoned) reckoned {
	last := len(p) - 1
	r := within(p[last], p[last])
	for i := last - 1; i >= 0; i-- {
		r = r.times(x).add(within(p[i], p[i]))
	}
	return r
}

// meantPowers is likewise of chapter 4's Powers.
func meantPowers(p []int, x reckoned) reckoned {
	r := reckoned{}
	for n, f := range p {
		r = r.add(within(f, f).times(meantPower(x, n)))
	}
	return r
}

// meantPower is likewise of chapter 3's powers of a span.
func meantPower(x reckoned, n int) reckoned {
	switch {
	case x.lo >= 0:
		return within(raised(x.lo, n, down), raised(x.hi, n, up))
	case x.hi <= 0 && n%2 == 1:
		return within(-raised(-x.lo, n, up), -raised(-x.hi, n, down))
	case x.hi <= 0:
		return within(raised(-x.hi, n, down), raised(-x.lo, n, up))
	case n == 0:
		return within(1000, 1000)
	case n%2 == 1:
		return within(-raised(-x.lo, n, up), raised(x.hi, n, up))
	}
	return within(0, raised(max(-x.lo, x.hi), n, up))
}

// raised is a number from 0 on with itself, n times, rounded each time; beyond what may be it stays.
func raised(x, n int, round func(int) int) int {
	r := 1000
	for i := 0; i < n && r <= most; i++ {
		r = round(r * x)
	}
	return r
}

// meantSlope is what the document says of Slope, likewise.
func meantSlope(p []int, x reckoned) reckoned {
	derived := []int{0}
	for n, f := range p {
		if n > 0 {
			derived = append(derived[:n-1], n*f)
		}
	}
	for _, f := range derived {
		if within(f, f).full {
			return reckoned{full: true}
		}
	}
	return meantHorner(derived, x)
}

// meantRange is what the document says of Range, likewise.
func meantRange(p []int, x reckoned) reckoned {
	// Shifting rounds down on either side of 0.
	middle := (x.lo + x.hi) >> 1
	away := within(x.lo-middle, x.hi-middle)
	return meantSlope(p, x).times(away).add(meantHorner(p, within(middle, middle)))
}

// meantBest is what the document says of Best, likewise.
func meantBest(p []int, x reckoned) reckoned {
	return meantRange(p, x).meet(meantPowers(p, x)).meet(meantHorner(p, x))
}

// meantWrong is what the document says is wrong with a polynomial and a span.
func meantWrong(p []int, x api.Span) api.Errno {
	switch {
	case len(p) < 1:
		return api.ErrNone
	case len(p) > 5:
		return api.ErrFull
	case slices.Min(p) < -most || slices.Max(p) > most:
		return api.ErrRange
	case min(x.Lo, x.Hi) < -most || max(x.Lo, x.Hi) > most:
		return api.ErrRange
	case x.Hi < x.Lo:
		return api.ErrShape
	}
	return api.OK
}

// checkMeant asks all calls, and holds them against what is meant.
func checkMeant(t *testing.T, p []int, x api.Span) {
	t.Helper()
	if told := meantWrong(p, x); told != api.OK {
		checkWrong(t, p, x, told)
		return
	}
	r := reckoned{lo: x.Lo, hi: x.Hi}
	for i, want := range []reckoned{meantSlope(p, r), meantRange(p, r), meantBest(p, r)} {
		told := api.OK
		if want.full {
			told = api.ErrFull
		}
		checkOver(t, calls[i].name, calls[i].call, p, x, api.Span{Lo: want.lo, Hi: want.hi}, told)
	}
}

// TestAllOfEdges goes over polynomials whose factors, and spans whose ends, are of numbers at which something turns.
func TestAllOfEdges(t *testing.T) {
	factors := []int{-most, -half - 1, -1, 0, 1000, 31623, half}
	spanEnds := []int{math.MinInt, -most - 1, -most, -1000001, -100001, -31623, -1001, -1, 0, 1, 1000, 31622, 1000000, most, most + 1, math.MaxInt}
	polys := [][]int{nil, {0, 0, 0, 0, 0, 0}, {0, most + 1}, {math.MinInt, 0, 0}}
	longer := [][]int{nil}
	for range 3 {
		longer = withOneMore(longer, factors)
		polys = append(polys, longer...)
	}
	// Of four and five factors only some, as there are many.
	polys = append(polys, withOneMore(longer, []int{-7, 333333333})...)
	polys = append(polys, withOneMore(withOneMore(longer, []int{0}), []int{1, -most / 4})...)
	for _, p := range polys {
		for _, lo := range spanEnds {
			for _, hi := range spanEnds {
				checkMeant(t, p, api.Span{Lo: lo, Hi: hi})
			}
		}
	}
}

// withOneMore gives each list with each number behind it.
func withOneMore(lists [][]int, numbers []int) [][]int {
	var longer [][]int
	for _, l := range lists {
		for _, n := range numbers {
			longer = append(longer, append(slices.Clone(l), n))
		}
	}
	return longer
}

// ordinary are polynomials that are beyond what may be nowhere near 0.
var ordinary = [][]int{
	{7}, {-1000, 1}, {1, -2, 3}, {2000, -3000, 1000}, {0, 0, 2000, 1000}, {-500, 1500, -2500, 3500},
	{0, 0, 0, 0, 1}, {1000, 0, -2000, 0, 1000}, {777, -333, 0, 1111, -999}, {-1, -2, -3, -4, -5},
}

// eachOrdinary asks each of them over spans below 0, above it and across it.
func eachOrdinary(ask func(p []int, x api.Span)) {
	for _, p := range ordinary {
		for lo := -3000; lo <= 3000; lo += 371 {
			for hi := lo; hi <= 3000; hi += 371 {
				ask(p, api.Span{Lo: lo, Hi: hi})
			}
		}
	}
}

// TestIn asks whether what a polynomial is at each number of a span is in what is told of that span.
func TestIn(t *testing.T) {
	eachOrdinary(func(p []int, x api.Span) {
		checkIn(t, "Range", center.Range, p, x)
		checkIn(t, "Best", center.Best, p, x)
	})
}

func checkIn(t *testing.T, name string, call overSpan, p []int, x api.Span) {
	t.Helper()
	s, err := call(p, x)
	if err != nil {
		t.Errorf("%s(%v, %v): %v", name, p, x, err)
	}
	for at := x.Lo; at <= x.Hi; at += 53 {
		if is := exactly(p, at); is < s.Lo*scale || is > s.Hi*scale {
			t.Errorf("%s(%v, %v) = %v, and what it is at %d is not in that", name, p, x, s, at)
		}
	}
}

// TestMean asks whether a polynomial rises, from any number of a span to any other, in the mean by what is in its Slope.
func TestMean(t *testing.T) {
	eachOrdinary(func(p []int, x api.Span) {
		s, err := center.Slope(p, x)
		if err != nil {
			t.Errorf("Slope(%v, %v): %v", p, x, err)
		}
		for from := x.Lo; from < x.Hi; from += 97 {
			for to := from + 1; to <= x.Hi; to += 211 {
				rise, way := exactly(p, to)-exactly(p, from), (to-from)*(scale/1000)
				if rise < s.Lo*way || rise > s.Hi*way {
					t.Errorf("Slope(%v, %v) = %v, and the mean from %d to %d is not in that", p, x, s, from, to)
				}
			}
		}
	})
}

// scale is how many of what exactly tells are a thousandth: enough for the greatest power.
const scale = 1000 * 1000 * 1000 * 1000

// exactly is what a polynomial of small factors is at a small number, without rounding.
func exactly(p []int, at int) int {
	sum, weight := 0, scale
	power := 1
	for _, f := range p {
		sum += f * power * weight
		power *= at
		weight /= 1000
	}
	return sum
}

// TestNoWider asks whether Best is in each of the three, and reaches no less far than all of them.
func TestNoWider(t *testing.T) {
	eachOrdinary(func(p []int, x api.Span) {
		got, _ := center.Best(p, x)
		var los, his []int
		for _, call := range []overSpan{poly.Horner, poly.Powers, center.Range} {
			s, _ := call(p, x)
			los, his = append(los, s.Lo), append(his, s.Hi)
		}
		if got.Lo != slices.Max(los) || got.Hi != slices.Min(his) {
			t.Errorf("Best(%v, %v) = %v; want from the greatest of %v to the least of %v", p, x, got, los, his)
		}
	})
}

// FuzzOver holds any polynomial over any span against what is meant.
func FuzzOver(f *testing.F) {
	f.Add(uint8(3), 2000, -3000, 1000, 0, 0, -4199, -4195)
	f.Add(uint8(5), 2, 0, 2024, -1, 2000, -4684, -3415)
	f.Add(uint8(6), 0, 0, 0, 0, math.MinInt, 1, 0)
	f.Fuzz(func(t *testing.T, count uint8, a, b, c, d, e, lo, hi int) {
		for _, bound := range []int{math.MaxInt, most + 2, 40000, 3000} {
			// Most ints are none that may be, and most products are beyond it, so they are brought near as well.
			near := []int{a % bound, b % bound, c % bound, d % bound, e % bound, a % bound}
			p := near[:int(count)%(len(near)+1)]
			checkMeant(t, p, api.Span{Lo: lo % bound, Hi: hi % bound})
			checkMeant(t, p, api.Span{Lo: min(lo%bound, hi%bound), Hi: max(lo%bound, hi%bound)})
		}
	})
}
