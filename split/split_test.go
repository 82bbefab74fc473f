package split_test

import (
	"math"
	"slices"
	"testing"

	"spanmeadow/api"
	"spanmeadow/mono"
	"spanmeadow/plain"
	"spanmeadow/poly"
	"spanmeadow/span"
	"spanmeadow/split"
)

// most is the greatest number that may be, and half the half of it.
const (
	most = api.MaxNumber
	half = most / 2
)

// behind is what is laid behind a list's length, to tell whether it is written over.
const behind = 4711

// ends of a span.
type ends [2]int

func (e ends) span() api.Span { return api.Span{Lo: e[0], Hi: e[1]} }

// full stands for a range that would be beyond what may be; no span has such ends.
var full = ends{1, -1}

// wrongPolys are polynomials with a fault, and which; where several are wrong with one, what is told first.
var wrongPolys = []struct {
	p    []int
	told api.Errno
}{
	{nil, api.ErrNone},
	{[]int{}, api.ErrNone},
	{[]int{1, 2, 3, 4, 5}[:0], api.ErrNone},
	{[]int{0, 0, 0, 0, 0, 0}, api.ErrFull},
	{[]int{1000, 1000, 1000, 1000, 1000, 1000}, api.ErrFull},
	{make([]int, 1000), api.ErrFull},
	{[]int{most + 1}, api.ErrRange},
	{[]int{-most - 1}, api.ErrRange},
	{[]int{math.MinInt}, api.ErrRange},
	{[]int{math.MaxInt}, api.ErrRange},
	{[]int{most + 1, 0, 0, 0, 0}, api.ErrRange},
	{[]int{0, -most - 1, 0, 0, 0}, api.ErrRange},
	{[]int{0, 0, math.MaxInt, 0, 0}, api.ErrRange},
	{[]int{0, 0, 0, math.MinInt, 0}, api.ErrRange},
	{[]int{0, 0, 0, 0, most + 1}, api.ErrRange},
	// Too many, and one that may not be: the many are told first.
	{[]int{most + 1, 0, 0, 0, 0, 0}, api.ErrFull},
	{[]int{0, 0, 0, 0, 0, math.MinInt}, api.ErrFull},
	// A range would be beyond what may be as well.
	{[]int{most + 1, 0, most}, api.ErrRange},
}

// wrongSpans are spans with a fault, and which.
var wrongSpans = []struct {
	x    ends
	told api.Errno
}{
	{ends{1, 0}, api.ErrShape},
	{ends{0, -1}, api.ErrShape},
	{ends{most, -most}, api.ErrShape},
	{ends{-most + 1, -most}, api.ErrShape},
	{ends{0, most + 1}, api.ErrRange},
	{ends{-most - 1, 0}, api.ErrRange},
	{ends{most + 1, 0}, api.ErrRange},
	{ends{0, -most - 1}, api.ErrRange},
	{ends{-most - 1, most + 1}, api.ErrRange},
	{ends{math.MinInt, math.MaxInt}, api.ErrRange},
	{ends{math.MaxInt, math.MinInt}, api.ErrRange},
	{ends{math.MinInt, math.MinInt}, api.ErrRange},
	{ends{math.MaxInt, math.MaxInt}, api.ErrRange},
}

// wrongMany are no numbers of pieces.
var wrongMany = []int{0, -1, -2, -api.MaxPieces, api.MaxPieces + 1, api.MaxPieces + 2, most, -most, most + 1, math.MaxInt32 + 1, math.MinInt, math.MaxInt, 1<<32 + 1}

// handed is a list for a call, with memory behind its length; unchanged tells whether all of it is as it was.
func handed(p []int) (list []int, unchanged func() bool) {
	// Without memory nil stays nil, so that it is asked too.
	if p == nil {
		return nil, func() bool { return true }
	}
	whole := append(slices.Clone(p), behind, behind)
	before := slices.Clone(whole)
	return whole[:len(p)], func() bool { return slices.Equal(whole, before) }
}

func checkPieces(t *testing.T, x api.Span, many int, want []api.Span, told api.Errno) {
	t.Helper()
	got, err := split.Pieces(x, many)
	if !slices.Equal(got, want) || plain.Told(err) != told {
		t.Errorf("Pieces(%v, %d) = %v, %v; want %v, %v", x, many, got, err, want, told)
	}
}

func checkRange(t *testing.T, p []int, x api.Span, many int, want api.Span, told api.Errno) {
	t.Helper()
	list, unchanged := handed(p)
	got, err := split.Range(list, x, many)
	if got != want || plain.Told(err) != told {
		t.Errorf("Range(%v, %v, %d) = %v, %v; want %v, %v", p, x, many, got, err, want, told)
	}
	if !unchanged() {
		t.Errorf("Range(%v, %v, %d) changed what it was handed", p, x, many)
	}
}

// parted is a number of pieces, and where they begin, and the last one ends.
type parted struct {
	many int
	cuts []int
}

// between gives the pieces of cuts.
func between(cuts []int) []api.Span {
	var pieces []api.Span
	for i := range len(cuts) - 1 {
		pieces = append(pieces, api.Span{Lo: cuts[i], Hi: cuts[i+1]})
	}
	return pieces
}

func checkParted(t *testing.T, all []parted) {
	t.Helper()
	for _, a := range all {
		x := api.Span{Lo: a.cuts[0], Hi: a.cuts[len(a.cuts)-1]}
		checkPieces(t, x, a.many, between(a.cuts), api.OK)
	}
}

func TestPieces(t *testing.T) {
	checkParted(t, []parted{
		// Of one piece.
		{1, []int{1000, 3000}},
		{1, []int{-3000, -1000}},
		{1, []int{-1000, 2000}},
		// Evenly.
		{2, []int{1000, 2000, 3000}},
		{4, []int{-3000, -2500, -2000, -1500, -1000}},
		{3, []int{-1000, 0, 1000, 2000}},
		{5, []int{0, 200, 400, 600, 800, 1000}},
		{8, []int{-1000, -875, -750, -625, -500, -375, -250, -125, 0}},
		{6, []int{-3000, -2000, -1000, 0, 1000, 2000, 3000}},
		// Not evenly; also below 0 what is rounded down is how far it is behind Lo.
		{3, []int{1000, 1666, 2333, 3000}},
		{3, []int{-3000, -2334, -1667, -1000}},
		{7, []int{-1000, -572, -143, 285, 714, 1142, 1571, 2000}},
		{6, []int{0, 166, 333, 500, 666, 833, 1000}},
		{7, []int{-1000, -858, -715, -572, -429, -286, -143, 0}},
		{10, []int{-500, -401, -301, -201, -101, -1, 99, 199, 299, 399, 499}},
		{3, []int{-1, 665, 1332, 1999}},
		{3, []int{-1999, -1333, -666, 1}},
	})
}

func TestPiecesMost(t *testing.T) {
	checkParted(t, []parted{
		{api.MaxPieces, []int{-3200, -3000, -2800, -2600, -2400, -2200, -2000, -1800, -1600, -1400, -1200, -1000, -800, -600, -400, -200, 0, 200, 400, 600, 800, 1000, 1200, 1400, 1600, 1800, 2000, 2200, 2400, 2600, 2800, 3000, 3200}},
		{api.MaxPieces, []int{32, 33, 34, 35, 36, 37, 38, 39, 40, 41, 42, 43, 44, 45, 46, 47, 48, 49, 50, 51, 52, 53, 54, 55, 56, 57, 58, 59, 60, 61, 62, 63, 64}},
		{api.MaxPieces, []int{-1000, -938, -875, -813, -750, -688, -625, -563, -500, -438, -375, -313, -250, -188, -125, -63, 0, 62, 125, 187, 250, 312, 375, 437, 500, 562, 625, 687, 750, 812, 875, 937, 1000}},
		{api.MaxPieces, []int{1001, 1032, 1063, 1094, 1125, 1157, 1188, 1219, 1250, 1281, 1313, 1344, 1375, 1406, 1438, 1469, 1500, 1531, 1562, 1594, 1625, 1656, 1687, 1719, 1750, 1781, 1812, 1843, 1875, 1906, 1937, 1968, 2000}},
		{api.MaxPieces, []int{-2000, -1969, -1938, -1907, -1876, -1844, -1813, -1782, -1751, -1720, -1688, -1657, -1626, -1595, -1563, -1532, -1501, -1470, -1439, -1407, -1376, -1345, -1314, -1282, -1251, -1220, -1189, -1158, -1126, -1095, -1064, -1033, -1001}},
	})
}

// TestPiecesNarrow asks of spans of one number, and of widths about as great as many, and less.
func TestPiecesNarrow(t *testing.T) {
	checkParted(t, []parted{
		{1, []int{0, 0}},
		{3, []int{0, 0, 0, 0}},
		{2, []int{7, 7, 7}},
		{5, []int{-7, -7, -7, -7, -7, -7}},
		{4, []int{most, most, most, most, most}},
		{4, []int{-most, -most, -most, -most, -most}},
		{api.MaxPieces, []int{1265, 1265, 1265, 1265, 1265, 1265, 1265, 1265, 1265, 1265, 1265, 1265, 1265, 1265, 1265, 1265, 1265, 1265, 1265, 1265, 1265, 1265, 1265, 1265, 1265, 1265, 1265, 1265, 1265, 1265, 1265, 1265, 1265}},
		{2, []int{0, 0, 1}},
		{2, []int{-1, -1, 0}},
		{3, []int{0, 0, 0, 1}},
		{3, []int{-1, -1, -1, 0}},
		{3, []int{0, 0, 1, 2}},
		{3, []int{-2, -2, -1, 0}},
		{4, []int{-1, -1, 0, 0, 1}},
		{5, []int{5, 5, 6, 7, 8, 9}},
		{5, []int{-9, -9, -8, -7, -6, -5}},
		{7, []int{0, 0, 1, 2, 2, 3, 4, 5}},
		{4, []int{0, 0, 1, 2, 3}},
		{4, []int{0, 1, 2, 3, 4}},
		{4, []int{0, 1, 2, 3, 5}},
		{4, []int{-3, -2, 0, 2, 4}},
		{4, []int{-4, -3, -1, 1, 3}},
		{api.MaxPieces, []int{0, 0, 1, 2, 3, 4, 5, 6, 7, 8, 9, 10, 11, 12, 13, 14, 15, 16, 17, 18, 19, 20, 21, 22, 23, 24, 25, 26, 27, 28, 29, 30, 31}},
		{api.MaxPieces, []int{-33, -32, -31, -30, -29, -28, -27, -26, -25, -24, -23, -22, -21, -20, -19, -18, -17, -16, -15, -14, -13, -12, -11, -10, -9, -8, -7, -6, -5, -4, -3, -2, 0}},
		{api.MaxPieces, []int{0, 0, 0, 0, 0, 0, 0, 0, 0, 0, 0, 0, 0, 0, 0, 0, 0, 0, 0, 0, 0, 0, 0, 0, 0, 0, 0, 0, 0, 0, 0, 0, 1}},
		{api.MaxPieces, []int{-1, -1, -1, -1, -1, -1, -1, -1, -1, -1, -1, -1, -1, -1, -1, -1, 0, 0, 0, 0, 0, 0, 0, 0, 0, 0, 0, 0, 0, 0, 0, 0, 1}},
	})
}

// TestPiecesFar asks of spans that end at the least number, or at the greatest one.
func TestPiecesFar(t *testing.T) {
	checkParted(t, []parted{
		{1, []int{-most, most}},
		{2, []int{-most, 0, most}},
		{3, []int{-most, -333333334, 333333333, most}},
		{7, []int{-most, -714285715, -428571429, -142857143, 142857142, 428571428, 714285714, most}},
		{31, []int{-most, -935483871, -870967742, -806451613, -741935484, -677419355, -612903226, -548387097, -483870968, -419354839, -354838710, -290322581, -225806452, -161290323, -96774194, -32258065, 32258064, 96774193, 161290322, 225806451, 290322580, 354838709, 419354838, 483870967, 548387096, 612903225, 677419354, 741935483, 806451612, 870967741, 935483870, most}},
		{api.MaxPieces, []int{-most, -937500000, -875000000, -812500000, -750000000, -687500000, -625000000, -562500000, -half, -437500000, -375000000, -312500000, -250000000, -187500000, -125000000, -62500000, 0, 62500000, 125000000, 187500000, 250000000, 312500000, 375000000, 437500000, half, 562500000, 625000000, 687500000, 750000000, 812500000, 875000000, 937500000, most}},
		{api.MaxPieces, []int{-most, -937500001, -875000001, -812500001, -750000001, -687500001, -625000001, -562500001, -half - 1, -437500001, -375000001, -312500001, -250000001, -187500001, -125000001, -62500001, -1, 62499999, 124999999, 187499999, 249999999, 312499999, 374999999, 437499999, half - 1, 562499999, 624999999, 687499999, 749999999, 812499999, 874999999, 937499999, most - 1}},
		{2, []int{-most + 1, 0, most}},
		{3, []int{0, 333333333, 666666666, most}},
		{3, []int{-most, -666666667, -333333334, 0}},
		{1, []int{most - 1, most}},
		{2, []int{most - 1, most - 1, most}},
		{2, []int{-most, -most, -most + 1}},
		{2, []int{most - 3, most - 2, most}},
		{2, []int{-most, -most + 1, -most + 3}},
	})
}

// TestPiecesFresh sees that what comes out is the caller's: neither another answer's, nor one that a later call goes by.
func TestPiecesFresh(t *testing.T) {
	x := api.Span{Lo: -1000, Hi: 2000}
	for many := 1; many <= api.MaxPieces; many++ {
		first, _ := split.Pieces(x, many)
		second, _ := split.Pieces(x, many)
		want := slices.Clone(second)
		for i := range first {
			first[i] = api.Span{Lo: behind, Hi: behind}
		}
		_ = append(first, api.Span{Lo: behind})
		if !slices.Equal(second, want) {
			t.Errorf("Pieces(%v, %d): two answers share memory", x, many)
		}
		checkPieces(t, x, many, want, api.OK)
	}
}

// asked is a polynomial over a span, in how many pieces, and what comes of it.
type asked struct {
	p    []int
	x    ends
	many int
	all  ends
}

func checkAll(t *testing.T, all []asked) {
	t.Helper()
	for _, a := range all {
		if a.all == full {
			checkRange(t, a.p, a.x.span(), a.many, api.Span{}, api.ErrFull)
		} else {
			checkRange(t, a.p, a.x.span(), a.many, a.all.span(), api.OK)
		}
	}
}

func TestRange(t *testing.T) {
	checkAll(t, []asked{
		// One factor.
		{[]int{3000}, ends{1000, 3000}, 1, ends{3000, 3000}},
		{[]int{3000}, ends{1000, 3000}, 2, ends{3000, 3000}},
		{[]int{3000}, ends{-2000, -1000}, api.MaxPieces, ends{3000, 3000}},
		{[]int{-3000}, ends{-1000, 2000}, 1, ends{-3000, -3000}},
		{[]int{-3000}, ends{-1000, 1999}, 7, ends{-3000, -3000}},
		// Two.
		{[]int{2000, 1000}, ends{-3000, -1000}, 1, ends{-1000, 1000}},
		{[]int{2000, 1000}, ends{-3000, -1000}, 4, ends{-1000, 1000}},
		{[]int{2000, 1000}, ends{-2999, -1000}, 5, ends{-999, 1000}},
		{[]int{2000, 1000}, ends{-2000, -1000}, api.MaxPieces, ends{0, 1000}},
		{[]int{1000, -3000}, ends{1000, 3000}, 2, ends{-8000, -2000}},
		{[]int{1000, -3000}, ends{1000, 2999}, 3, ends{-7997, -2000}},
		{[]int{1000, -3000}, ends{-1500, 1500}, api.MaxPieces, ends{-3500, 5500}},
		// Three.
		{[]int{2000, -3000, 1000}, ends{-1000, 2000}, 1, ends{-4000, 6000}},
		{[]int{2000, -3000, 1000}, ends{-1000, 2000}, 3, ends{-750, 6000}},
		{[]int{2000, -3000, 1000}, ends{-1000, 1999}, 7, ends{-384, 6000}},
		{[]int{2000, -3000, 1000}, ends{-2000, -1000}, api.MaxPieces, ends{6000, 12000}},
		{[]int{2000, -3000, 1000}, ends{-1500, 1500}, api.MaxPieces, ends{-250, 8750}},
		{[]int{0, 0, -1000}, ends{-2999, -1000}, 5, ends{-8995, -1000}},
		{[]int{0, 0, -1000}, ends{0, 3000}, api.MaxPieces, ends{-9000, 0}},
		// Four.
		{[]int{0, 2000, -3000, 1000}, ends{1000, 3000}, 1, ends{-11000, 6000}},
		{[]int{0, 2000, -3000, 1000}, ends{1000, 3000}, 2, ends{-2375, 6000}},
		{[]int{0, 2000, -3000, 1000}, ends{1000, 2999}, 3, ends{-1442, 5993}},
		{[]int{0, 2000, -3000, 1000}, ends{0, 3000}, api.MaxPieces, ends{-403, 6000}},
		{[]int{500, -1500, 2500, -3500}, ends{-1000, 1999}, 7, ends{-20470, 8000}},
		{[]int{500, -1500, 2500, -3500}, ends{-1500, 1500}, api.MaxPieces, ends{-7938, 20188}},
		{[]int{0, 1000, -2000, 1000}, ends{-2999, -1000}, 5, ends{-47964, -4000}},
		// Five.
		{[]int{1000, 0, -2000, 0, 1000}, ends{1000, 2999}, 3, ends{0, 63917}},
		{[]int{1000, 0, -2000, 0, 1000}, ends{0, 3000}, api.MaxPieces, ends{-24, 64000}},
		{[]int{777, -333, 0, 1111, -999}, ends{-1000, 2000}, 1, ends{-8329, 9998}},
		{[]int{777, -333, 0, 1111, -999}, ends{-1000, 2000}, 3, ends{-6985, 1555}},
		{[]int{777, -333, 0, 1111, -999}, ends{-1000, 1999}, 7, ends{-6980, 992}},
		{[]int{777, -333, 0, 1111, -999}, ends{-2000, -1000}, api.MaxPieces, ends{-23429, -1000}},
		{[]int{0, 0, 0, 0, 1000}, ends{-1500, 1500}, api.MaxPieces, ends{0, 5063}},
	})
}

// TestMorePieces asks one polynomial over one span in more and more pieces; more are not always nearer, as a piece may lie across where it turns.
func TestMorePieces(t *testing.T) {
	checkAll(t, []asked{
		{[]int{2000, -3000, 1000}, ends{1000, 2000}, 1, ends{-750, 250}},
		{[]int{2000, -3000, 1000}, ends{1000, 2000}, 2, ends{-250, 0}},
		{[]int{2000, -3000, 1000}, ends{1000, 2000}, 3, ends{-306, 0}},
		{[]int{2000, -3000, 1000}, ends{1000, 2000}, 4, ends{-250, 0}},
		{[]int{2000, -3000, 1000}, ends{1000, 2000}, 5, ends{-270, 0}},
		{[]int{2000, -3000, 1000}, ends{1000, 2000}, 31, ends{-251, 0}},
		{[]int{2000, -3000, 1000}, ends{1000, 2000}, api.MaxPieces, ends{-250, 0}},
		{[]int{0, 3000, -3000, 1000}, ends{0, 2000}, 1, ends{-6000, 6000}},
		{[]int{0, 3000, -3000, 1000}, ends{0, 2000}, 2, ends{-375, 2625}},
		{[]int{0, 3000, -3000, 1000}, ends{0, 2000}, 3, ends{0, 2299}},
		{[]int{0, 3000, -3000, 1000}, ends{0, 2000}, 4, ends{0, 2000}},
		{[]int{0, 3000, -3000, 1000}, ends{0, 2000}, api.MaxPieces, ends{0, 2000}},
		{[]int{1000, 0, -2000, 0, 1000}, ends{-2000, 2000}, 1, ends{-7000, 17000}},
		{[]int{1000, 0, -2000, 0, 1000}, ends{-2000, 2000}, 2, ends{-7000, 9000}},
		{[]int{1000, 0, -2000, 0, 1000}, ends{-2000, 2000}, 4, ends{0, 9000}},
		{[]int{1000, 0, -2000, 0, 1000}, ends{-2000, 2000}, api.MaxPieces, ends{0, 9000}},
	})
}

// TestRangeNarrow asks over spans of one number, and of widths about as great as many, and less.
func TestRangeNarrow(t *testing.T) {
	checkAll(t, []asked{
		{[]int{2000, 1000}, ends{1265, 1265}, 1, ends{3265, 3265}},
		{[]int{2000, -3000, 1000}, ends{1500, 1500}, 3, ends{-250, -250}},
		{[]int{2000, -3000, 1000}, ends{1499, 1499}, api.MaxPieces, ends{-250, -249}},
		{[]int{-2000, 1000, 1000}, ends{0, 0}, 5, ends{-2000, -2000}},
		{[]int{5}, ends{most, most}, api.MaxPieces, ends{5, 5}},
		{[]int{0, 1000}, ends{-most, -most}, api.MaxPieces, ends{-most, -most}},
		{[]int{1, 0, -7, 5, -1}, ends{2391, 2391}, 4, ends{-5, -2}},
		{[]int{2000, -3000, 1000}, ends{0, 1}, 2, ends{1997, 2000}},
		{[]int{2000, -3000, 1000}, ends{1499, 1501}, 1, ends{-251, -249}},
		{[]int{2000, -3000, 1000}, ends{1499, 1501}, 2, ends{-250, -249}},
		{[]int{2000, -3000, 1000}, ends{1499, 1501}, 3, ends{-250, -249}},
		{[]int{0, 0, 1}, ends{-1, 1}, 2, ends{0, 1}},
		{[]int{0, 0, 1}, ends{-1, 1}, api.MaxPieces, ends{0, 1}},
		{[]int{0, 1000}, ends{-3, 4}, 4, ends{-3, 4}},
		{[]int{0, 1000}, ends{0, 31}, api.MaxPieces, ends{0, 31}},
		{[]int{0, 1000}, ends{-33, 0}, api.MaxPieces, ends{-33, 0}},
	})
}

// TestJustFits asks where nothing is beyond what may be, but would be if it were a bit further.
func TestJustFits(t *testing.T) {
	checkAll(t, []asked{
		{[]int{most}, ends{-most, most}, 1, ends{most, most}},
		{[]int{-most}, ends{-most, most}, api.MaxPieces, ends{-most, -most}},
		{[]int{0, 1000}, ends{-most, most}, 1, ends{-most, most}},
		{[]int{0, -1000}, ends{-most, most}, 2, ends{-most, most}},
		{[]int{0, 1000}, ends{-most, most}, 3, ends{-most, most}},
		{[]int{0, 1000}, ends{-most, most}, api.MaxPieces, ends{-most, most}},
		{[]int{0, 1000}, ends{most - 1, most}, 2, ends{most - 1, most}},
		{[]int{0, -1000}, ends{-most, -most + 1}, 3, ends{most - 1, most}},
		{[]int{0, most}, ends{-1000, 1000}, 3, ends{-most, most}},
		{[]int{0, -most}, ends{-1000, 1000}, api.MaxPieces, ends{-most, most}},
		{[]int{most, -1000}, ends{0, 64}, api.MaxPieces, ends{999999936, most}},
		{[]int{0, -most, half}, ends{0, 1000}, 4, ends{-half, 0}},
		{[]int{0, 0, 500}, ends{-1000000, 1000000}, 4, ends{0, half}},
		{[]int{0, 0, 0}, ends{-1000000, 1000000}, api.MaxPieces, ends{0, 0}},
		{[]int{0, 0, 0, 0, 0}, ends{-31622, 31622}, api.MaxPieces, ends{0, 0}},
	})
}

// TestFull asks where more pieces than one, or all of them, are beyond what may be.
func TestFull(t *testing.T) {
	checkAll(t, []asked{
		{[]int{0, 1001}, ends{-most, most}, 1, full},
		{[]int{0, 1001}, ends{-most, most}, api.MaxPieces, full},
		{[]int{0, most}, ends{-1001, 1001}, 2, full},
		{[]int{0, most}, ends{-1001, 1001}, api.MaxPieces, full},
		{[]int{0, 0, 0}, ends{-1000001, 1000001}, api.MaxPieces, full},
		{[]int{0, 0, 0}, ends{1000001, 1000001}, 3, full},
		{[]int{5, 0, 0}, ends{-most, most}, api.MaxPieces, full},
		{[]int{0, 0, half + 1}, ends{0, 0}, 5, full},
		{[]int{0, 0, 0, 0, -250000001}, ends{0, 0}, api.MaxPieces, full},
		{[]int{most, most, most, most, most}, ends{0, 0}, 2, full},
		{[]int{0, 0, 0, 1000}, ends{-most, most}, api.MaxPieces, full},
		{[]int{0, 0, 0, 0, 0}, ends{31623, 31623}, 4, full},
	})
}

// TestWholeFull asks where the range over the whole span is beyond what may be, and over the pieces it is not.
func TestWholeFull(t *testing.T) {
	checkAll(t, []asked{
		// By chapter 5's Range.
		{[]int{most, -1}, ends{0, 2}, 1, full},
		{[]int{most, -1}, ends{0, 2}, 2, ends{most - 1, most}},
		{[]int{most, -1}, ends{0, 2}, api.MaxPieces, ends{most - 1, most}},
		{[]int{-most, 1}, ends{0, 2}, 1, full},
		{[]int{-most, 1}, ends{0, 2}, 2, ends{-most, -most + 1}},
		{[]int{0, 0, 1000}, ends{-707107, 707107}, 1, full},
		{[]int{0, 0, 1000}, ends{-707107, 707107}, 2, ends{0, 500000310}},
		{[]int{0, 0, 1000}, ends{-707107, 707107}, 3, ends{0, 500000310}},
		{[]int{0, 0, 1000}, ends{-707107, 707107}, api.MaxPieces, ends{0, 500000310}},
		// By Horner.
		{[]int{-half, -half, half}, ends{-1, 1000}, 1, full},
		{[]int{-half, -half, half}, ends{-1, 1000}, 2, ends{-718999500, -499499500}},
		{[]int{-half, -half, half}, ends{-1, 1000}, api.MaxPieces, ends{-625352000, -499499500}},
		{[]int{half, half, -half}, ends{-1, 1000}, 1, full},
		{[]int{half, half, -half}, ends{-1, 1000}, 3, ends{499499500, 653055500}},
		{[]int{-650000000, 80000000, 10000000}, ends{-4000, 1000}, 1, full},
		{[]int{-650000000, 80000000, 10000000}, ends{-4000, 1000}, 2, ends{-810000000, -560000000}},
		{[]int{650000000, -80000000, -10000000}, ends{-4000, 1000}, 1, full},
		{[]int{650000000, -80000000, -10000000}, ends{-4000, 1000}, 4, ends{560000000, 810000000}},
	})
}

// TestOneFull asks where one piece alone is beyond what may be, and which.
func TestOneFull(t *testing.T) {
	for _, a := range []struct {
		asked
		which int
	}{
		{asked{[]int{0, 0, 0}, ends{-1000001, 0}, 2, full}, 0},
		{asked{[]int{0, 0, 0}, ends{-1000001, 0}, api.MaxPieces, full}, 0},
		{asked{[]int{0, 0, 0, 0, 0}, ends{-31623, 31622}, api.MaxPieces, full}, 0},
		{asked{[]int{-1, 1000}, ends{-most, most}, 2, full}, 0},
		{asked{[]int{0, most}, ends{-1001, 1000}, 3, full}, 0},
		{asked{[]int{0, 0, 0}, ends{0, 1000001}, 2, full}, 1},
		{asked{[]int{0, 0, 0}, ends{0, 1000001}, api.MaxPieces, full}, 31},
		{asked{[]int{0, 0, 0, 0, 0}, ends{-31622, 31623}, api.MaxPieces, full}, 31},
		{asked{[]int{1, 1000}, ends{-most, most}, 2, full}, 1},
		{asked{[]int{0, -most}, ends{-1000, 1001}, 3, full}, 2},
		{asked{[]int{-1, -most, half}, ends{0, 1000}, 4, full}, 3},
		{asked{[]int{most, -1}, ends{0, 3}, 2, full}, 1},
		{asked{[]int{most - 1, -3, 0}, ends{-3, 2}, 3, full}, 1},
		{asked{[]int{-most + 1, 0, 500000, 2, 500000}, ends{-2, 1}, 3, full}, 1},
		{asked{[]int{-most, 0, 1}, ends{-1, 1}, 5, full}, 2},
		{asked{[]int{-most + 2, -2000, 1, 3000}, ends{-4, 1}, 5, full}, 3},
		{asked{[]int{-most, 500000, -3}, ends{0, 3}, api.MaxPieces, full}, 10},
		{asked{[]int{most - 1, -2, -2000, 1}, ends{-38, 43}, api.MaxPieces, full}, 15},
		{asked{[]int{-most + 2, 2, 1000, -1000, -1000}, ends{-163, 126}, api.MaxPieces, full}, 18},
		// The whole span is not.
		{asked{[]int{most - 1, -1}, ends{-3, 4}, 4, full}, 1},
		{asked{[]int{-most + 1, 1}, ends{-4, 5}, 5, full}, 1},
		{asked{[]int{most, -1}, ends{0, 2000}, 2, full}, 0},
		{asked{[]int{-most, 1}, ends{0, 2000}, 2, full}, 0},
	} {
		checkAll(t, []asked{a.asked})
		for i := range a.many {
			if _, err := mono.Range(a.p, meantPiece(a.x.span(), i, a.many)); (err != nil) != (i == a.which) {
				t.Errorf("%v over piece %d of %d of %v: %v; only piece %d is meant to be beyond what may be", a.p, i, a.many, a.x, err, a.which)
			}
		}
	}
	checkAll(t, []asked{
		{[]int{most - 1, -1}, ends{-3, 4}, 1, ends{most - 2, most}},
		{[]int{-most + 1, 1}, ends{-4, 5}, 1, ends{-most, -most + 2}},
		{[]int{most, -1}, ends{0, 2000}, 1, ends{most - 2, most}},
		{[]int{-most, 1}, ends{0, 2000}, 1, ends{-most, -most + 2}},
	})
}

func TestPiecesWrong(t *testing.T) {
	for _, w := range wrongSpans {
		for _, many := range []int{1, 2, 5, api.MaxPieces} {
			checkPieces(t, w.x.span(), many, nil, w.told)
		}
		// What is wrong with the span is told ahead of what is wrong with many.
		for _, many := range wrongMany {
			checkPieces(t, w.x.span(), many, nil, w.told)
		}
	}
	for _, many := range wrongMany {
		for _, x := range []ends{{0, 0}, {1000, 2000}, {-most, most}} {
			checkPieces(t, x.span(), many, nil, api.ErrRange)
		}
	}
}

func TestRangeWrong(t *testing.T) {
	someSpans := []ends{{0, 0}, {1000, 2000}, {-most, most}}
	// Also such as would be beyond what may be: what is wrong is told ahead of that.
	somePolys := [][]int{{0}, {1000, -3000, 2000}, {1, 2, 3, 4, 5}, {0, 0, half + 1}, {0, 0, 0, 0, -most}, {most, most, most}}
	for _, many := range append([]int{1, 3, api.MaxPieces}, wrongMany...) {
		// What is wrong with the polynomial is told first, then what is wrong with the span, then many.
		for _, w := range wrongPolys {
			for _, x := range someSpans {
				checkRange(t, w.p, x.span(), many, api.Span{}, w.told)
			}
			for _, x := range wrongSpans {
				checkRange(t, w.p, x.x.span(), many, api.Span{}, w.told)
			}
		}
		for _, p := range somePolys {
			for _, x := range wrongSpans {
				checkRange(t, p, x.x.span(), many, api.Span{}, x.told)
			}
		}
	}
	for _, many := range wrongMany {
		for _, p := range somePolys {
			for _, x := range someSpans {
				checkRange(t, p, x.span(), many, api.Span{}, api.ErrRange)
			}
		}
	}
}

// meantPiece is what the document says of one of the pieces, by a reckoning of its own: whole parts and rest apart.
func meantPiece(x api.Span, i, many int) api.Span {
	whole, rest := (x.Hi-x.Lo)/many, (x.Hi-x.Lo)%many
	cut := func(times int) int { return x.Lo + times*whole + times*rest/many }
	return api.Span{Lo: cut(i), Hi: cut(i + 1)}
}

// meantPieces is what the document says of Pieces.
func meantPieces(x api.Span, many int) ([]api.Span, error) {
	if err := span.Check(x); err != nil {
		return nil, err
	}
	if many <= 0 || many >= 33 {
		return nil, api.ErrRange
	}
	var pieces []api.Span
	for i := range many {
		pieces = append(pieces, meantPiece(x, i, many))
	}
	return pieces, nil
}

// meantRange is what the document says of Range, by chapter 6's Range.
func meantRange(p []int, x api.Span, many int) (api.Span, error) {
	if err := poly.Check(p); err != nil {
		return api.Span{}, err
	}
	pieces, err := meantPieces(x, many)
	if err != nil {
		return api.Span{}, err
	}
	var lows, highs []int
	for _, piece := range pieces {
		s, err := mono.Range(p, piece)
		if err != nil {
			return api.Span{}, api.ErrFull
		}
		lows, highs = append(lows, s.Lo), append(highs, s.Hi)
	}
	return api.Span{Lo: slices.Min(lows), Hi: slices.Max(highs)}, nil
}

// checkMeant asks both calls, and holds them against what is meant.
func checkMeant(t *testing.T, p []int, x api.Span, many int) {
	t.Helper()
	pieces, err := meantPieces(x, many)
	checkPieces(t, x, many, pieces, plain.Told(err))
	all, err := meantRange(p, x, many)
	checkRange(t, p, x, many, all, plain.Told(err))
}

// TestAllOfEdges goes over polynomials whose factors, spans whose ends, and numbers of pieces, are of numbers at which something turns.
func TestAllOfEdges(t *testing.T) {
	factors := []int{-most, -1, 0, 1000, half}
	spanEnds := []int{math.MinInt, -most - 1, -most, -1000001, -1001, 0, 31, 1000000, most, math.MaxInt}
	manies := []int{math.MinInt, -1, 0, 1, 2, 3, api.MaxPieces, api.MaxPieces + 1, math.MaxInt}
	polys := [][]int{nil, {0, 0, 0, 0, 0, 0}, {0, most + 1}, {math.MinInt, 0, 0}, {7, 0, -1, 1000}, {-1, 1, 0, 0, 250000000}}
	longer := [][]int{nil}
	for range 3 {
		longer = withOneMore(longer, factors)
		polys = append(polys, longer...)
	}
	for _, p := range polys {
		for _, lo := range spanEnds {
			for _, hi := range spanEnds {
				for _, many := range manies {
					checkMeant(t, p, api.Span{Lo: lo, Hi: hi}, many)
				}
			}
		}
	}
}

// withOneMore gives each list with each number behind it.
func withOneMore(lists [][]int, numbers []int) [][]int {
	var longer [][]int
	for _, l := range lists {
		for _, n := range numbers {
			longer = append(longer, append(slices.Clone(l), n))
		}
	}
	return longer
}

// TestRoundedDown asks of each number of pieces whether each ends as far behind Lo as it may, and no further, and begins where the one ahead ends.
func TestRoundedDown(t *testing.T) {
	for _, x := range []ends{{0, 0}, {0, 1}, {-1, 1}, {-3, 28}, {-40, -8}, {5, 38}, {-1000, 2000}, {-777, 1234}, {1000, 1999}, {-most, most}, {-most, 0}, {-most + 1, most}, {-7, most}, {most - 2, most}} {
		for many := 1; many <= api.MaxPieces; many++ {
			checkEnds(t, x.span(), many)
		}
	}
}

func checkEnds(t *testing.T, x api.Span, many int) {
	t.Helper()
	pieces, err := split.Pieces(x, many)
	if err != nil || len(pieces) != many {
		t.Fatalf("Pieces(%v, %d) = %v, %v", x, many, pieces, err)
	}
	from := x.Lo
	for i, piece := range pieces {
		far, meant := (piece.Hi-x.Lo)*many, (i+1)*(x.Hi-x.Lo)
		if piece.Lo != from || far > meant || far+many <= meant {
			t.Errorf("Pieces(%v, %d): piece %d is %v, behind %d", x, many, i, piece, from)
		}
		from = piece.Hi
	}
	if from != x.Hi {
		t.Errorf("Pieces(%v, %d): the last one ends at %d", x, many, from)
	}
}

// ordinary are polynomials that are beyond what may be nowhere near 0.
var ordinary = [][]int{
	{7}, {-1000, 1}, {1, -2, 3}, {2000, -3000, 1000}, {0, 0, 2000, 1000}, {-500, 1500, -2500, 3500},
	{0, 0, 0, 0, 1}, {1000, 0, -2000, 0, 1000}, {777, -333, 0, 1111, -999}, {-1, -2, -3, -4, -5},
	{7000, 30000, -2000, 1000}, {1000, -90000, 3000, -2000, 1000},
}

// eachOrdinary asks each of them over spans below 0, above it and across it, in one piece, in a few and in many.
func eachOrdinary(ask func(p []int, x api.Span, many int)) {
	for _, p := range ordinary {
		for lo := -3000; lo <= 3000; lo += 571 {
			for hi := lo; hi <= 3000; hi += 571 {
				for _, many := range []int{1, 2, 3, 7, 20, api.MaxPieces} {
					ask(p, api.Span{Lo: lo, Hi: hi}, many)
				}
			}
		}
	}
}

func TestOrdinary(t *testing.T) {
	eachOrdinary(func(p []int, x api.Span, many int) {
		checkMeant(t, p, x, many)
	})
}

// TestIn asks whether what a polynomial is at each number of a span is in its Range.
func TestIn(t *testing.T) {
	eachOrdinary(func(p []int, x api.Span, many int) {
		s, err := split.Range(p, x, many)
		if err != nil {
			t.Errorf("Range(%v, %v, %d): %v", p, x, many, err)
		}
		for at := x.Lo; at <= x.Hi; at += 53 {
			if is := exactly(p, at); is < s.Lo*scale || is > s.Hi*scale {
				t.Errorf("Range(%v, %v, %d) = %v, and what it is at %d is not in that", p, x, many, s, at)
			}
		}
	})
}

// TestNoWider asks whether a Range in pieces is never wider than Horner over the whole span.
func TestNoWider(t *testing.T) {
	eachOrdinary(func(p []int, x api.Span, many int) {
		s, _ := split.Range(p, x, many)
		if h, _ := poly.Horner(p, x); s.Lo < h.Lo || s.Hi > h.Hi {
			t.Errorf("Range(%v, %v, %d) = %v; Horner is %v", p, x, many, s, h)
		}
	})
}

// scale is how many of what exactly tells are a thousandth: enough for the greatest power.
const scale = 1000 * 1000 * 1000 * 1000

// exactly is what a polynomial of small factors is at a small number, without rounding.
func exactly(p []int, at int) int {
	sum, weight := 0, scale
	power := 1
	for _, f := range p {
		sum += f * power * weight
		power *= at
		weight /= 1000
	}
	return sum
}

// FuzzOver holds any polynomial over any span in any number of pieces against what is meant.
func FuzzOver(f *testing.F) {
	f.Add(uint8(3), 2000, -3000, 1000, 0, 0, 528, 528, 3)
	f.Add(uint8(5), 2, 0, 2024, -1, 2000, -2000, 2006, 32)
	f.Add(uint8(6), 0, 0, 0, 0, math.MinInt, 1, 0, 33)
	f.Fuzz(func(t *testing.T, count uint8, a, b, c, d, e, lo, hi, many int) {
		for _, bound := range []int{math.MaxInt, most + 2, 40000, 3000} {
			// Most ints are none that may be, and most products are beyond it, so they are brought near as well.
			near := []int{a % bound, b % bound, c % bound, d % bound, e % bound, a % bound}
			p := near[:int(count)%(len(near)+1)]
			checkMeant(t, p, api.Span{Lo: lo % bound, Hi: hi % bound}, many)
			checkMeant(t, p, api.Span{Lo: min(lo%bound, hi%bound), Hi: max(lo%bound, hi%bound)}, many%(api.MaxPieces+2))
		}
	})
}
