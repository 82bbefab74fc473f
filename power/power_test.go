package power_test

import (
	"math"
	"math/big"
	"testing"

	"spanmeadow/api"
	"spanmeadow/plain"
	"spanmeadow/power"
)

// most is the greatest number that may be.
const most = api.MaxNumber

// none is what comes beside an error.
var none = [2]int{}

// wrongSpans are spans with a fault, and which; where both ends' numbers and their order are wrong, the number is told.
var wrongSpans = []struct {
	lo, hi int
	told   api.Errno
}{
	{1, 0, api.ErrShape},
	{0, -1, api.ErrShape},
	{most, -most, api.ErrShape},
	{-most + 1, -most, api.ErrShape},
	{0, most + 1, api.ErrRange},
	{-most - 1, 0, api.ErrRange},
	{-most - 1, most + 1, api.ErrRange},
	{most + 1, 0, api.ErrRange},
	{0, -most - 1, api.ErrRange},
	{math.MinInt, math.MaxInt, api.ErrRange},
	{math.MaxInt, math.MinInt, api.ErrRange},
	{math.MinInt, math.MinInt, api.ErrRange},
	{math.MaxInt, math.MaxInt, api.ErrRange},
	{math.MinInt, 0, api.ErrRange},
	{0, math.MaxInt, api.ErrRange},
}

func checkFar(t *testing.T, lo, hi, least, farthest int, told api.Errno) {
	t.Helper()
	x, y, err := power.Far(api.Span{Lo: lo, Hi: hi})
	if x != least || y != farthest || plain.Told(err) != told {
		t.Errorf("Far(%d, %d) = %d, %d, %v; want %d, %d, %v", lo, hi, x, y, err, least, farthest, told)
	}
}

func checkMiddle(t *testing.T, lo, hi, want int, told api.Errno) {
	t.Helper()
	got, err := power.Middle(api.Span{Lo: lo, Hi: hi})
	if got != want || plain.Told(err) != told {
		t.Errorf("Middle(%d, %d) = %d, %v; want %d, %v", lo, hi, got, err, want, told)
	}
}

func checkOf(t *testing.T, a api.Span, n int, want api.Span, told api.Errno) {
	t.Helper()
	got, err := power.Of(a, n)
	if got != want || plain.Told(err) != told {
		t.Errorf("Of(%v, %d) = %v, %v; want %v, %v", a, n, got, err, want, told)
	}
}

func TestFar(t *testing.T) {
	for _, c := range []struct{ lo, hi, least, farthest int }{
		{2, 5, 2, 5},
		{-5, -2, 2, 5},
		// Across 0, with either end further out, and both as far.
		{-2, 5, 0, 5},
		{-5, 2, 0, 5},
		{-5, 5, 0, 5},
		{-1, 1, 0, 1},
		// 0 as an end.
		{0, 5, 0, 5},
		{-5, 0, 0, 5},
		{0, 0, 0, 0},
		{1, 5, 1, 5},
		{-5, -1, 1, 5},
		// One number.
		{5, 5, 5, 5},
		{-5, -5, 5, 5},
		{-most, most, 0, most},
		{-most, most - 1, 0, most},
		{-most + 1, most, 0, most},
		{most, most, most, most},
		{-most, -most, most, most},
		{-most, 0, 0, most},
		{0, most, 0, most},
		{-most, -1, 1, most},
		{1, most, 1, most},
	} {
		checkFar(t, c.lo, c.hi, c.least, c.farthest, api.OK)
	}
	for _, w := range wrongSpans {
		checkFar(t, w.lo, w.hi, 0, 0, w.told)
	}
}

func TestMiddle(t *testing.T) {
	for _, c := range []struct{ lo, hi, want int }{
		{2, 6, 4},
		{-6, -2, -4},
		{-2, 6, 2},
		{-6, 2, -2},
		{-6, 6, 0},
		// Odd sums, above 0 and below it: rounded down.
		{2, 5, 3},
		{-5, -2, -4},
		{-2, 5, 1},
		{-5, 2, -2},
		{0, 1, 0},
		{-1, 0, -1},
		{-1, 2, 0},
		{-2, 1, -1},
		{0, 0, 0},
		{7, 7, 7},
		{-7, -7, -7},
		{-most, most, 0},
		{-most, most - 1, -1},
		{-most + 1, most, 0},
		{most, most, most},
		{-most, -most, -most},
		{most - 1, most, most - 1},
		{-most, -most + 1, -most},
		{-most, 0, -most / 2},
		{0, most, most / 2},
	} {
		checkMiddle(t, c.lo, c.hi, c.want, api.OK)
	}
	for _, w := range wrongSpans {
		checkMiddle(t, w.lo, w.hi, 0, w.told)
	}
}

// row is a span, by its ends, and what Of makes of it with each n from 0 to MaxDegree.
type row struct {
	a    [2]int
	want [api.MaxDegree + 1][2]int
}

func spanOf(ends [2]int) api.Span { return api.Span{Lo: ends[0], Hi: ends[1]} }

// one is what comes of n 0.
var one = [2]int{1000, 1000}

func TestOf(t *testing.T) {
	for _, r := range []row{
		{[2]int{2000, 3000}, [...][2]int{one, {2000, 3000}, {4000, 9000}, {8000, 27000}, {16000, 81000}}},
		{[2]int{-3000, -2000}, [...][2]int{one, {-3000, -2000}, {4000, 9000}, {-27000, -8000}, {16000, 81000}}},
		{[2]int{-2000, 3000}, [...][2]int{one, {-2000, 3000}, {0, 9000}, {-8000, 27000}, {0, 81000}}},
		{[2]int{-3000, 2000}, [...][2]int{one, {-3000, 2000}, {0, 9000}, {-27000, 8000}, {0, 81000}}},
		{[2]int{-2000, 2000}, [...][2]int{one, {-2000, 2000}, {0, 4000}, {-8000, 8000}, {0, 16000}}},
		{[2]int{0, 2000}, [...][2]int{one, {0, 2000}, {0, 4000}, {0, 8000}, {0, 16000}}},
		{[2]int{-2000, 0}, [...][2]int{one, {-2000, 0}, {0, 4000}, {-8000, 0}, {0, 16000}}},
		// 0 with itself no times is One, too.
		{[2]int{0, 0}, [...][2]int{one, {0, 0}, {0, 0}, {0, 0}, {0, 0}}},
		{[2]int{1000, 1000}, [...][2]int{one, one, one, one, one}},
		{[2]int{-1000, -1000}, [...][2]int{one, {-1000, -1000}, one, {-1000, -1000}, one}},
		// One number, rounded down and up each time.
		{[2]int{1001, 1001}, [...][2]int{one, {1001, 1001}, {1002, 1003}, {1003, 1005}, {1004, 1007}}},
		{[2]int{-1001, -1001}, [...][2]int{one, {-1001, -1001}, {1002, 1003}, {-1005, -1003}, {1004, 1007}}},
		{[2]int{1265, 1265}, [...][2]int{one, {1265, 1265}, {1600, 1601}, {2024, 2026}, {2560, 2563}}},
		{[2]int{-1265, -1265}, [...][2]int{one, {-1265, -1265}, {1600, 1601}, {-2026, -2024}, {2560, 2563}}},
		// Next to 0: downward it is gone, upward it never is.
		{[2]int{1, 1}, [...][2]int{one, {1, 1}, {0, 1}, {0, 1}, {0, 1}}},
		{[2]int{-1, -1}, [...][2]int{one, {-1, -1}, {0, 1}, {-1, 0}, {0, 1}}},
		{[2]int{-1, 1}, [...][2]int{one, {-1, 1}, {0, 1}, {-1, 1}, {0, 1}}},
		{[2]int{999, 999}, [...][2]int{one, {999, 999}, {998, 999}, {997, 999}, {996, 999}}},
		{[2]int{-999, 500}, [...][2]int{one, {-999, 500}, {0, 999}, {-999, 125}, {0, 999}}},
		// As far out as n 4 lets them be.
		{[2]int{31622, 31622}, [...][2]int{one, {31622, 31622}, {999950, 999951}, {31620418, 31620451}, {999900857, 999901902}}},
		{[2]int{-31622, 0}, [...][2]int{one, {-31622, 0}, {0, 999951}, {-31620451, 0}, {0, 999901902}}},
	} {
		for n, want := range r.want {
			checkOf(t, spanOf(r.a), n, spanOf(want), api.OK)
		}
	}
}

// TestOfFull asks on either side of where one would be none that may be, with each n.
func TestOfFull(t *testing.T) {
	for _, c := range []struct {
		a    [2]int
		n    int
		want [2]int
		told api.Errno
	}{
		// With n 0 and 1 nothing is.
		{[2]int{-most, most}, 0, one, api.OK},
		{[2]int{most, most}, 0, one, api.OK},
		{[2]int{-most, -most}, 0, one, api.OK},
		{[2]int{-most, most}, 1, [2]int{-most, most}, api.OK},
		{[2]int{most, most}, 1, [2]int{most, most}, api.OK},
		{[2]int{-most, -most}, 1, [2]int{-most, -most}, api.OK},
		{[2]int{-1000000, 1000000}, 2, [2]int{0, most}, api.OK},
		{[2]int{1000000, 1000000}, 2, [2]int{most, most}, api.OK},
		{[2]int{-1000000, -1000000}, 2, [2]int{most, most}, api.OK},
		{[2]int{0, 1000001}, 2, none, api.ErrFull},
		{[2]int{-1000001, 0}, 2, none, api.ErrFull},
		{[2]int{1000001, 1000001}, 2, none, api.ErrFull},
		{[2]int{-100000, 100000}, 3, [2]int{-most, most}, api.OK},
		{[2]int{100000, 100000}, 3, [2]int{most, most}, api.OK},
		{[2]int{-100000, -100000}, 3, [2]int{-most, -most}, api.OK},
		// One end alone, and both.
		{[2]int{0, 100001}, 3, none, api.ErrFull},
		{[2]int{-100001, 0}, 3, none, api.ErrFull},
		{[2]int{-100001, 100001}, 3, none, api.ErrFull},
		{[2]int{100001, 100001}, 3, none, api.ErrFull},
		{[2]int{-100001, -100001}, 3, none, api.ErrFull},
		{[2]int{-31622, 31622}, 4, [2]int{0, 999901902}, api.OK},
		{[2]int{0, 31623}, 4, none, api.ErrFull},
		{[2]int{-31623, 0}, 4, none, api.ErrFull},
		{[2]int{31623, 31623}, 4, none, api.ErrFull},
		{[2]int{-31623, -31623}, 4, none, api.ErrFull},
		// Beyond ahead of the last time: already with the second, or the third.
		{[2]int{0, 1000001}, 3, none, api.ErrFull},
		{[2]int{-1000001, 0}, 3, none, api.ErrFull},
		{[2]int{0, 1000001}, 4, none, api.ErrFull},
		{[2]int{0, 100001}, 4, none, api.ErrFull},
		{[2]int{-100001, 0}, 4, none, api.ErrFull},
		{[2]int{-most, most}, 2, none, api.ErrFull},
		{[2]int{-most, most}, 3, none, api.ErrFull},
		{[2]int{-most, most}, 4, none, api.ErrFull},
		{[2]int{most, most}, 4, none, api.ErrFull},
		{[2]int{-most, -most}, 3, none, api.ErrFull},
	} {
		checkOf(t, spanOf(c.a), c.n, spanOf(c.want), c.told)
	}
}

func TestOfWrong(t *testing.T) {
	wrongDegrees := []int{math.MinInt, -most - 1, -2, -1, api.MaxDegree + 1, api.MaxDegree + 2, most + 1, math.MaxInt - 1, math.MaxInt}
	for _, n := range wrongDegrees {
		checkOf(t, api.Span{Lo: 1000, Hi: 2000}, n, api.Span{}, api.ErrRange)
		checkOf(t, api.Span{}, n, api.Span{}, api.ErrRange)
		// It would be beyond what may be as well.
		checkOf(t, api.Span{Lo: -most, Hi: most}, n, api.Span{}, api.ErrRange)
	}
	// What is wrong with the span is told ahead of what is wrong with n.
	for _, w := range wrongSpans {
		for _, n := range append(wrongDegrees, 0, 1, 2, 3, 4) {
			checkOf(t, api.Span{Lo: w.lo, Hi: w.hi}, n, api.Span{}, w.told)
		}
	}
}

// wrong tells what is wrong with a span.
func wrong(a api.Span) api.Errno {
	for _, n := range []int{a.Lo, a.Hi} {
		if n > most || n < -most {
			return api.ErrRange
		}
	}
	if a.Hi < a.Lo {
		return api.ErrShape
	}
	return api.OK
}

// size is how far a number that may be is from 0.
func size(n int) int {
	if n < 0 {
		return -n
	}
	return n
}

// meantFar is what the document says of Far, of a span of which nothing is wrong.
func meantFar(a api.Span) (int, int) {
	least, farthest := size(a.Lo), size(a.Hi)
	if least > farthest {
		least, farthest = farthest, least
	}
	if a.Lo <= 0 && a.Hi >= 0 {
		least = 0
	}
	return least, farthest
}

// meantMiddle is what the document says of Middle, likewise.
func meantMiddle(a api.Span) int {
	// Div rounds down where it divides by something above 0.
	sum := new(big.Int).Add(big.NewInt(int64(a.Lo)), big.NewInt(int64(a.Hi)))
	return int(sum.Div(sum, big.NewInt(2)).Int64())
}

// meantRaised is a number from 0 on with itself, n times, downward, or else upward; false if one would be none that may be.
func meantRaised(x, n int, down bool) (int, bool) {
	p := big.NewInt(1000)
	for i := 0; i < n; i++ {
		p.Mul(p, big.NewInt(int64(x)))
		if !down {
			p.Add(p, big.NewInt(999))
		}
		p.Div(p, big.NewInt(1000))
		if p.Cmp(big.NewInt(most)) > 0 {
			return 0, false
		}
	}
	return int(p.Int64()), true
}

// meantEnd is an end of a span, raised by an odd n.
func meantEnd(x, n int, down bool) (int, bool) {
	if x >= 0 {
		return meantRaised(x, n, down)
	}
	p, ok := meantRaised(-x, n, !down)
	return -p, ok
}

// meantOf is what the document says of Of.
func meantOf(a api.Span, n int) (api.Span, api.Errno) {
	if told := wrong(a); told != api.OK {
		return api.Span{}, told
	}
	switch n {
	case 0:
		return api.Span{Lo: 1000, Hi: 1000}, api.OK
	case 2, 4:
		a.Lo, a.Hi = meantFar(a)
	case 1, 3:
	default:
		return api.Span{}, api.ErrRange
	}
	lo, low := meantEnd(a.Lo, n, true)
	hi, high := meantEnd(a.Hi, n, false)
	if !low || !high {
		return api.Span{}, api.ErrFull
	}
	return api.Span{Lo: lo, Hi: hi}, api.OK
}

// checkMeant asks all calls, and holds them against what is meant.
func checkMeant(t *testing.T, a api.Span, n int) {
	t.Helper()
	want, told := meantOf(a, n)
	checkOf(t, a, n, want, told)
	if told := wrong(a); told != api.OK {
		checkFar(t, a.Lo, a.Hi, 0, 0, told)
		checkMiddle(t, a.Lo, a.Hi, 0, told)
		return
	}
	least, farthest := meantFar(a)
	checkFar(t, a.Lo, a.Hi, least, farthest, api.OK)
	checkMiddle(t, a.Lo, a.Hi, meantMiddle(a), api.OK)
}

// TestAllOfEdges goes over all spans whose ends are of these numbers, those the wrong way round too.
func TestAllOfEdges(t *testing.T) {
	edges := []int{0, 1, 2, 31, 32, 37, 500, 999, 1000, 1001, 1414, 1999, 2000, 2718, 31621, 31622, 31623, 99999, 100000, 100001, 999999, 1000000, 1000001, most - 1, most, most + 1, math.MaxInt}
	numbers := []int{math.MinInt}
	for _, n := range edges {
		numbers = append(numbers, n, -n)
	}
	for _, lo := range numbers {
		for _, hi := range numbers {
			for n := -1; n <= api.MaxDegree+1; n++ {
				checkMeant(t, api.Span{Lo: lo, Hi: hi}, n)
			}
		}
	}
}

// TestAllOfOne goes over all spans of one number up to where n 4 is beyond what may be, and somewhat further.
func TestAllOfOne(t *testing.T) {
	for x := -31700; x <= 31700; x++ {
		for n := 1; n <= api.MaxDegree; n++ {
			checkMeant(t, api.Span{Lo: x, Hi: x}, n)
		}
	}
}

// TestIn asks whether each number of a span, with itself, is in what is told, and whether an even n is never below 0.
func TestIn(t *testing.T) {
	for lo := -3000; lo <= 3000; lo += 371 {
		for hi := lo; hi <= 3000; hi += 371 {
			for n := range api.MaxDegree + 1 {
				s, err := power.Of(api.Span{Lo: lo, Hi: hi}, n)
				if err != nil || n%2 == 0 && s.Lo < 0 {
					t.Errorf("Of({%d %d}, %d) = %v, %v", lo, hi, n, s, err)
				}
				for x := lo; x <= hi; x += 53 {
					if !isIn(x, n, s) {
						t.Errorf("%d, %d times, is not in %v, of {%d %d}", x, n, s, lo, hi)
					}
				}
			}
		}
	}
}

// isIn tells whether x with itself, n times and without rounding, is in a span.
func isIn(x, n int, s api.Span) bool {
	// Thousandths of thousandths, n times over, so that nothing is left behind.
	p, scale := 1000, 1
	for i := 0; i < n; i++ {
		p, scale = p*x, scale*1000
	}
	return s.Lo*scale <= p && p <= s.Hi*scale
}

func FuzzOf(f *testing.F) {
	f.Add(1000, 2000, 2)
	f.Add(-31623, 31622, 4)
	f.Add(-100000, 5, 3)
	f.Fuzz(func(t *testing.T, lo, hi, n int) {
		checkMeant(t, api.Span{Lo: lo, Hi: hi}, n)
		// Most ints are none that may be, and most powers are beyond it, so they are brought near as well.
		checkMeant(t, api.Span{Lo: lo % most, Hi: hi % most}, n%6)
		checkMeant(t, api.Span{Lo: lo % 32000, Hi: hi % 32000}, n%6)
	})
}
