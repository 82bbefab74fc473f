package span_test

import (
	"math"
	"math/big"
	"slices"
	"testing"

	"spanmeadow/api"
	"spanmeadow/plain"
	"spanmeadow/span"
)

// most is the greatest number that may be.
const most = api.MaxNumber

// twoSpans is a call of two spans.
type twoSpans = func(a, b api.Span) (api.Span, error)

// row is a call of two spans, by their ends, and what comes of it.
type row struct {
	a, b, want [2]int
	told       api.Errno
}

// none is what comes beside an error.
var none = [2]int{}

func spanOf(ends [2]int) api.Span { return api.Span{Lo: ends[0], Hi: ends[1]} }

func checkRows(t *testing.T, name string, call twoSpans, rows []row) {
	t.Helper()
	for _, r := range rows {
		checkCall(t, name, call, spanOf(r.a), spanOf(r.b), spanOf(r.want), r.told)
	}
}

func checkCall(t *testing.T, name string, call twoSpans, a, b, want api.Span, told api.Errno) {
	t.Helper()
	got, err := call(a, b)
	if got != want || plain.Told(err) != told {
		t.Errorf("%s(%v, %v) = %v, %v; want %v, %v", name, a, b, got, err, want, told)
	}
}

func TestCheck(t *testing.T) {
	for _, c := range []struct {
		lo, hi int
		told   api.Errno
	}{
		{0, 0, api.OK},
		{-1, 1, api.OK},
		{5, 5, api.OK},
		{-most, most, api.OK},
		{-most, -most, api.OK},
		{most, most, api.OK},
		{1, 0, api.ErrShape},
		{-1, -2, api.ErrShape},
		{most, -most, api.ErrShape},
		{most, most - 1, api.ErrShape},
		{-most + 1, -most, api.ErrShape},
		{-most - 1, 0, api.ErrRange},
		{0, most + 1, api.ErrRange},
		{-most - 1, most + 1, api.ErrRange},
		{math.MinInt, math.MaxInt, api.ErrRange},
		{math.MinInt, 0, api.ErrRange},
		{0, math.MaxInt, api.ErrRange},
		// The wrong way round as well: the number is told first.
		{most + 1, 0, api.ErrRange},
		{0, -most - 1, api.ErrRange},
		{most + 1, most, api.ErrRange},
		{-most, -most - 1, api.ErrRange},
		{math.MaxInt, math.MinInt, api.ErrRange},
		// Their difference wraps round.
		{math.MinInt, 1, api.ErrRange},
		{1, math.MinInt, api.ErrRange},
	} {
		err := span.Check(api.Span{Lo: c.lo, Hi: c.hi})
		if plain.Told(err) != c.told {
			t.Errorf("Check(%d, %d) = %v; want %v", c.lo, c.hi, err, c.told)
		}
	}
}

// TestCheckAll asks of none, of one, of several, and of as many as one likes; a list that is handed in stays as it is.
func TestCheckAll(t *testing.T) {
	right, beyond, shape := spanOf([2]int{-most, most}), spanOf([2]int{most + 1, 0}), spanOf([2]int{1, 0})
	many := slices.Repeat([]api.Span{right}, 1000)
	for _, c := range []struct {
		spans []api.Span
		told  api.Errno
	}{
		{nil, api.OK},
		{[]api.Span{}, api.OK},
		{[]api.Span{right}, api.OK},
		{[]api.Span{beyond}, api.ErrRange},
		{[]api.Span{shape}, api.ErrShape},
		{[]api.Span{right, right, right}, api.OK},
		{[]api.Span{shape, right, right}, api.ErrShape},
		{[]api.Span{right, beyond, right}, api.ErrRange},
		{[]api.Span{right, right, shape}, api.ErrShape},
		// The first that has a fault is told.
		{[]api.Span{right, shape, beyond}, api.ErrShape},
		{[]api.Span{right, beyond, shape}, api.ErrRange},
		{[]api.Span{shape, right, beyond}, api.ErrShape},
		{many, api.OK},
		{append(slices.Clone(many), beyond), api.ErrRange},
		{append(slices.Clone(many), right, shape, beyond), api.ErrShape},
		// What lies behind the length is not asked.
		{[]api.Span{right, beyond}[:1], api.OK},
	} {
		before := slices.Clone(c.spans)
		err := span.CheckAll(c.spans...)
		if plain.Told(err) != c.told || !slices.Equal(c.spans, before) {
			t.Errorf("CheckAll of %d spans = %v; want %v", len(c.spans), err, c.told)
		}
	}
	if err := span.CheckAll(right, shape, beyond); plain.Told(err) != api.ErrShape {
		t.Errorf("CheckAll of three = %v", err)
	}
}

func TestAlone(t *testing.T) {
	for _, n := range []int{math.MinInt, -most - 1, -most, -1, 0, 1, 1000, most, most + 1, math.MaxInt} {
		if got := span.Alone(n); got != spanOf([2]int{n, n}) {
			t.Errorf("Alone(%d) = %v", n, got)
		}
	}
}

func TestHas(t *testing.T) {
	for _, c := range []struct {
		lo, hi, n int
		has       bool
	}{
		{-1, 1, 0, true},
		{0, 1, 0, true},
		{-1, 0, 0, true},
		{0, 0, 0, true},
		{1, 2, 0, false},
		{-2, -1, 0, false},
		{5, 9, 4, false},
		{5, 9, 5, true},
		{5, 9, 9, true},
		{5, 9, 10, false},
		{-9, -5, -10, false},
		{-9, -5, -9, true},
		{-9, -5, -5, true},
		{-9, -5, -4, false},
		{-most, most, -most, true},
		{-most, most, most, true},
		{-most, most, most + 1, false},
		{-most, most, -most - 1, false},
		{-most, most, math.MinInt, false},
		{-most, most, math.MaxInt, false},
		// The wrong way round nothing is between the ends.
		{1, -1, 0, false},
		{1, 0, 0, false},
		{1, 0, 1, false},
		{math.MaxInt, math.MinInt, 0, false},
		{math.MinInt, math.MaxInt, 0, true},
	} {
		if got := span.Has(api.Span{Lo: c.lo, Hi: c.hi}, c.n); got != c.has {
			t.Errorf("Has(%d to %d, %d) = %v", c.lo, c.hi, c.n, got)
		}
	}
}

func TestAdd(t *testing.T) {
	checkRows(t, "Add", span.Add, []row{
		{[2]int{1, 3}, [2]int{10, 20}, [2]int{11, 23}, api.OK},
		{[2]int{-3, -1}, [2]int{-20, -10}, [2]int{-23, -11}, api.OK},
		{[2]int{-3, 5}, [2]int{-20, 10}, [2]int{-23, 15}, api.OK},
		{[2]int{-3, -1}, [2]int{10, 20}, [2]int{7, 19}, api.OK},
		{[2]int{7, 7}, [2]int{-7, -7}, [2]int{0, 0}, api.OK},
		{[2]int{0, 0}, [2]int{-most, most}, [2]int{-most, most}, api.OK},
		{[2]int{-most, most}, [2]int{0, 0}, [2]int{-most, most}, api.OK},
		{[2]int{-most, -most}, [2]int{most, most}, [2]int{0, 0}, api.OK},
		{[2]int{most - 1, most - 1}, [2]int{0, 1}, [2]int{most - 1, most}, api.OK},
		{[2]int{-most + 1, 0}, [2]int{-1, 0}, [2]int{-most, 0}, api.OK},
		// One end, the other one, both.
		{[2]int{-most, 0}, [2]int{-1, 0}, none, api.ErrFull},
		{[2]int{0, most}, [2]int{0, 1}, none, api.ErrFull},
		{[2]int{-most, most}, [2]int{-1, 1}, none, api.ErrFull},
		{[2]int{most, most}, [2]int{most, most}, none, api.ErrFull},
		{[2]int{-most, -most}, [2]int{-most, -most}, none, api.ErrFull},
		{[2]int{-1, 0}, [2]int{-most, 0}, none, api.ErrFull},
	})
}

func TestLess(t *testing.T) {
	checkRows(t, "Less", span.Less, []row{
		{[2]int{1, 3}, [2]int{10, 20}, [2]int{-19, -7}, api.OK},
		{[2]int{10, 20}, [2]int{1, 3}, [2]int{7, 19}, api.OK},
		{[2]int{-3, -1}, [2]int{-20, -10}, [2]int{7, 19}, api.OK},
		{[2]int{-3, 5}, [2]int{-20, 10}, [2]int{-13, 25}, api.OK},
		// A span less itself is not 0 alone.
		{[2]int{1, 3}, [2]int{1, 3}, [2]int{-2, 2}, api.OK},
		{[2]int{7, 7}, [2]int{7, 7}, [2]int{0, 0}, api.OK},
		{[2]int{0, 0}, [2]int{-most, most}, [2]int{-most, most}, api.OK},
		{[2]int{0, 0}, [2]int{most, most}, [2]int{-most, -most}, api.OK},
		{[2]int{most, most}, [2]int{most, most}, [2]int{0, 0}, api.OK},
		{[2]int{-most, -most}, [2]int{-most, -most}, [2]int{0, 0}, api.OK},
		{[2]int{-1, 0}, [2]int{0, most - 1}, [2]int{-most, 0}, api.OK},
		{[2]int{0, 1}, [2]int{-most + 1, 0}, [2]int{0, most}, api.OK},
		// One end, the other one, both.
		{[2]int{-1, 0}, [2]int{0, most}, none, api.ErrFull},
		{[2]int{0, 1}, [2]int{-most, 0}, none, api.ErrFull},
		{[2]int{-most, most}, [2]int{-1, 1}, none, api.ErrFull},
		{[2]int{-most, -most}, [2]int{most, most}, none, api.ErrFull},
		{[2]int{most, most}, [2]int{-most, -most}, none, api.ErrFull},
	})
}

func TestTimes(t *testing.T) {
	checkRows(t, "Times", span.Times, []row{
		{[2]int{2000, 3000}, [2]int{5000, 7000}, [2]int{10000, 21000}, api.OK},
		{[2]int{-3000, -2000}, [2]int{5000, 7000}, [2]int{-21000, -10000}, api.OK},
		{[2]int{2000, 3000}, [2]int{-7000, -5000}, [2]int{-21000, -10000}, api.OK},
		{[2]int{-3000, -2000}, [2]int{-7000, -5000}, [2]int{10000, 21000}, api.OK},
		{[2]int{-2000, 3000}, [2]int{5000, 7000}, [2]int{-14000, 21000}, api.OK},
		{[2]int{-2000, 3000}, [2]int{-7000, -5000}, [2]int{-21000, 14000}, api.OK},
		{[2]int{5000, 7000}, [2]int{-2000, 3000}, [2]int{-14000, 21000}, api.OK},
		{[2]int{-7000, -5000}, [2]int{-2000, 3000}, [2]int{-21000, 14000}, api.OK},
		// Across 0 each of the four may be an end.
		{[2]int{-2000, 3000}, [2]int{-5000, 7000}, [2]int{-15000, 21000}, api.OK},
		{[2]int{-3000, 2000}, [2]int{-5000, 7000}, [2]int{-21000, 15000}, api.OK},
		{[2]int{-3000, 2000}, [2]int{-7000, 5000}, [2]int{-15000, 21000}, api.OK},
		{[2]int{-2000, 3000}, [2]int{-7000, 5000}, [2]int{-21000, 15000}, api.OK},
		// The lower end is rounded down, the upper one up.
		{[2]int{1001, 1001}, [2]int{1001, 1001}, [2]int{1002, 1003}, api.OK},
		{[2]int{-1001, -1001}, [2]int{1001, 1001}, [2]int{-1003, -1002}, api.OK},
		{[2]int{-1, 1}, [2]int{1, 1}, [2]int{-1, 1}, api.OK},
		{[2]int{1, 1}, [2]int{1, 1}, [2]int{0, 1}, api.OK},
		{[2]int{0, 0}, [2]int{-most, most}, [2]int{0, 0}, api.OK},
		{[2]int{-most, most}, [2]int{0, 0}, [2]int{0, 0}, api.OK},
		{[2]int{-most, most}, [2]int{-1000, 1000}, [2]int{-most, most}, api.OK},
		{[2]int{-most, most}, [2]int{1000, 1000}, [2]int{-most, most}, api.OK},
		{[2]int{most, most}, [2]int{-1000, -1000}, [2]int{-most, -most}, api.OK},
		{[2]int{999000999, 999000999}, [2]int{1001, 1001}, [2]int{999999999, most}, api.OK},
	})
}

func TestTimesFull(t *testing.T) {
	checkRows(t, "Times", span.Times, []row{
		{[2]int{most, most}, [2]int{1001, 1001}, none, api.ErrFull},
		{[2]int{-most, most}, [2]int{-most, most}, none, api.ErrFull},
		{[2]int{-most, -most}, [2]int{-most, -most}, none, api.ErrFull},
		// Each of the four products alone.
		{[2]int{-most, 0}, [2]int{-1001, 0}, none, api.ErrFull},
		{[2]int{-most, 0}, [2]int{0, 1001}, none, api.ErrFull},
		{[2]int{0, most}, [2]int{-1001, 0}, none, api.ErrFull},
		{[2]int{0, most}, [2]int{0, 1001}, none, api.ErrFull},
		// Only what is rounded away from 0 would be beyond.
		{[2]int{997008974, 997008974}, [2]int{1003, 1003}, none, api.ErrFull},
		{[2]int{-997008974, -997008974}, [2]int{1003, 1003}, none, api.ErrFull},
	})
}

func TestBy(t *testing.T) {
	checkRows(t, "By", span.By, []row{
		{[2]int{6000, 12000}, [2]int{2000, 3000}, [2]int{2000, 6000}, api.OK},
		{[2]int{-12000, -6000}, [2]int{2000, 3000}, [2]int{-6000, -2000}, api.OK},
		{[2]int{6000, 12000}, [2]int{-3000, -2000}, [2]int{-6000, -2000}, api.OK},
		{[2]int{-12000, -6000}, [2]int{-3000, -2000}, [2]int{2000, 6000}, api.OK},
		{[2]int{-6000, 12000}, [2]int{2000, 3000}, [2]int{-3000, 6000}, api.OK},
		{[2]int{-6000, 12000}, [2]int{-3000, -2000}, [2]int{-6000, 3000}, api.OK},
		{[2]int{0, 12000}, [2]int{2000, 3000}, [2]int{0, 6000}, api.OK},
		{[2]int{0, 0}, [2]int{1, most}, [2]int{0, 0}, api.OK},
		{[2]int{0, 0}, [2]int{-most, -1}, [2]int{0, 0}, api.OK},
		// The lower end is rounded down, the upper one up.
		{[2]int{1000, 1000}, [2]int{3000, 3000}, [2]int{333, 334}, api.OK},
		{[2]int{-1000, -1000}, [2]int{3000, 3000}, [2]int{-334, -333}, api.OK},
		{[2]int{-1, 1}, [2]int{most, most}, [2]int{-1, 1}, api.OK},
		// Next to 0 on either side.
		{[2]int{-1000000, 1000000}, [2]int{1, 1}, [2]int{-most, most}, api.OK},
		{[2]int{-1000000, 1000000}, [2]int{-1, -1}, [2]int{-most, most}, api.OK},
		{[2]int{-most, most}, [2]int{1000, most}, [2]int{-most, most}, api.OK},
		{[2]int{-most, most}, [2]int{-most, -1000}, [2]int{-most, most}, api.OK},
		{[2]int{most, most}, [2]int{most, most}, [2]int{1000, 1000}, api.OK},
	})
}

func TestByFull(t *testing.T) {
	checkRows(t, "By", span.By, []row{
		{[2]int{1000001, 1000001}, [2]int{1, 1}, none, api.ErrFull},
		{[2]int{-most, most}, [2]int{1, most}, none, api.ErrFull},
		// Each of the four quotients alone.
		{[2]int{-1000001, 0}, [2]int{1, 2}, none, api.ErrFull},
		{[2]int{0, 1000001}, [2]int{1, 2}, none, api.ErrFull},
		{[2]int{-1000001, 0}, [2]int{-2, -1}, none, api.ErrFull},
		{[2]int{0, 1000001}, [2]int{-2, -1}, none, api.ErrFull},
		{[2]int{0, most}, [2]int{999, 1000}, none, api.ErrFull},
	})
}

func TestByZero(t *testing.T) {
	checkRows(t, "By", span.By, []row{
		{[2]int{1000, 2000}, [2]int{0, 0}, none, api.ErrZero},
		{[2]int{1000, 2000}, [2]int{0, 1000}, none, api.ErrZero},
		{[2]int{1000, 2000}, [2]int{-1000, 0}, none, api.ErrZero},
		{[2]int{1000, 2000}, [2]int{-1000, 1000}, none, api.ErrZero},
		{[2]int{0, 0}, [2]int{-1, 1}, none, api.ErrZero},
		{[2]int{0, 0}, [2]int{-most, most}, none, api.ErrZero},
		// Also where a quotient of ends would be beyond what may be.
		{[2]int{most, most}, [2]int{-1, 1}, none, api.ErrZero},
		{[2]int{most, most}, [2]int{0, 1}, none, api.ErrZero},
		{[2]int{-most, most}, [2]int{-1, 0}, none, api.ErrZero},
		// What is wrong with a, or b, is told ahead of it.
		{[2]int{most + 1, 0}, [2]int{0, 0}, none, api.ErrRange},
		{[2]int{1, 0}, [2]int{0, 0}, none, api.ErrShape},
		{[2]int{0, 0}, [2]int{0, most + 1}, none, api.ErrRange},
		{[2]int{0, 0}, [2]int{1, -1}, none, api.ErrShape},
	})
}

func TestHull(t *testing.T) {
	checkRows(t, "Hull", span.Hull, []row{
		{[2]int{1, 3}, [2]int{10, 20}, [2]int{1, 20}, api.OK},
		{[2]int{10, 20}, [2]int{1, 3}, [2]int{1, 20}, api.OK},
		{[2]int{-3, -1}, [2]int{-20, -10}, [2]int{-20, -1}, api.OK},
		{[2]int{-3, 5}, [2]int{-1, 10}, [2]int{-3, 10}, api.OK},
		{[2]int{-3, 50}, [2]int{-1, 10}, [2]int{-3, 50}, api.OK},
		{[2]int{-1, 10}, [2]int{-3, 50}, [2]int{-3, 50}, api.OK},
		{[2]int{7, 7}, [2]int{7, 7}, [2]int{7, 7}, api.OK},
		{[2]int{-7, -7}, [2]int{-5, -5}, [2]int{-7, -5}, api.OK},
		{[2]int{most, most}, [2]int{-most, -most}, [2]int{-most, most}, api.OK},
		{[2]int{-most, most}, [2]int{-most, most}, [2]int{-most, most}, api.OK},
	})
}

func TestMeet(t *testing.T) {
	checkRows(t, "Meet", span.Meet, []row{
		{[2]int{1, 10}, [2]int{3, 20}, [2]int{3, 10}, api.OK},
		{[2]int{3, 20}, [2]int{1, 10}, [2]int{3, 10}, api.OK},
		{[2]int{-20, -3}, [2]int{-10, -1}, [2]int{-10, -3}, api.OK},
		{[2]int{-3, 5}, [2]int{-1, 2}, [2]int{-1, 2}, api.OK},
		{[2]int{-1, 2}, [2]int{-3, 5}, [2]int{-1, 2}, api.OK},
		{[2]int{7, 7}, [2]int{7, 7}, [2]int{7, 7}, api.OK},
		{[2]int{-most, most}, [2]int{-most, most}, [2]int{-most, most}, api.OK},
		// In one number, and just not.
		{[2]int{1, 5}, [2]int{5, 9}, [2]int{5, 5}, api.OK},
		{[2]int{5, 9}, [2]int{1, 5}, [2]int{5, 5}, api.OK},
		{[2]int{-5, 0}, [2]int{0, 5}, [2]int{0, 0}, api.OK},
		{[2]int{-most, 0}, [2]int{-most, -most}, [2]int{-most, -most}, api.OK},
		{[2]int{0, most}, [2]int{most, most}, [2]int{most, most}, api.OK},
		{[2]int{1, 5}, [2]int{6, 9}, none, api.ErrNone},
		{[2]int{6, 9}, [2]int{1, 5}, none, api.ErrNone},
		{[2]int{-5, -1}, [2]int{0, 5}, none, api.ErrNone},
		{[2]int{7, 7}, [2]int{8, 8}, none, api.ErrNone},
		{[2]int{-most, -most}, [2]int{most, most}, none, api.ErrNone},
		{[2]int{most, most}, [2]int{-most, most - 1}, none, api.ErrNone},
		// What is wrong with a, or b, is told ahead of it.
		{[2]int{1, 5}, [2]int{9, 6}, none, api.ErrShape},
		{[2]int{1, 5}, [2]int{6, most + 1}, none, api.ErrRange},
	})
}

// meant is one of the calls, and what the document says of it, reckoned in another way.
type meant struct {
	name string
	call twoSpans
	tell func(a, b api.Span) (api.Span, api.Errno)
}

// calls are all calls of two spans; what each tells is meant for spans of which nothing is wrong.
var calls = []meant{
	{"Add", span.Add, func(a, b api.Span) (api.Span, api.Errno) {
		return ends(pairs(a, b, (*big.Rat).Add))
	}},
	{"Less", span.Less, func(a, b api.Span) (api.Span, api.Errno) {
		return ends(pairs(a, b, (*big.Rat).Sub))
	}},
	{"Times", span.Times, func(a, b api.Span) (api.Span, api.Errno) {
		return ends(pairs(a, b, func(z, x, y *big.Rat) *big.Rat { return z.Quo(z.Mul(x, y), thousand) }))
	}},
	{"By", span.By, func(a, b api.Span) (api.Span, api.Errno) {
		if b.Lo <= 0 && b.Hi >= 0 {
			return api.Span{}, api.ErrZero
		}
		return ends(pairs(a, b, func(z, x, y *big.Rat) *big.Rat { return z.Mul(z.Quo(x, y), thousand) }))
	}},
	{"Hull", span.Hull, func(a, b api.Span) (api.Span, api.Errno) {
		if a.Lo > b.Lo {
			a.Lo = b.Lo
		}
		if a.Hi < b.Hi {
			a.Hi = b.Hi
		}
		return a, api.OK
	}},
	{"Meet", span.Meet, func(a, b api.Span) (api.Span, api.Errno) {
		if a.Hi < b.Lo || b.Hi < a.Lo {
			return api.Span{}, api.ErrNone
		}
		if a.Lo < b.Lo {
			a.Lo = b.Lo
		}
		if a.Hi > b.Hi {
			a.Hi = b.Hi
		}
		return a, api.OK
	}},
}

var thousand = big.NewRat(1000, 1)

// pairs gives what do makes of each end of a and each of b, without rounding.
func pairs(a, b api.Span, do func(z, x, y *big.Rat) *big.Rat) []*big.Rat {
	var all []*big.Rat
	for _, x := range []int{a.Lo, a.Hi} {
		for _, y := range []int{b.Lo, b.Hi} {
			all = append(all, do(new(big.Rat), big.NewRat(int64(x), 1), big.NewRat(int64(y), 1)))
		}
	}
	return all
}

// ends gives the span of whole numbers that has all of these and is the least one that has.
func ends(all []*big.Rat) (api.Span, api.Errno) {
	least, greatest := all[0], all[0]
	for _, r := range all {
		if r.Cmp(least) < 0 {
			least = r
		}
		if r.Cmp(greatest) > 0 {
			greatest = r
		}
	}
	lo := floor(least)
	hi := new(big.Int).Neg(floor(new(big.Rat).Neg(greatest)))
	if lo.CmpAbs(big.NewInt(most)) > 0 || hi.CmpAbs(big.NewInt(most)) > 0 {
		return api.Span{}, api.ErrFull
	}
	return api.Span{Lo: int(lo.Int64()), Hi: int(hi.Int64())}, api.OK
}

// floor is a fraction rounded down.
func floor(r *big.Rat) *big.Int {
	return new(big.Int).Div(r.Num(), r.Denom())
}

// wrong tells what is wrong with a span.
func wrong(a api.Span) api.Errno {
	for _, n := range []int{a.Lo, a.Hi} {
		if n > most || n < -most {
			return api.ErrRange
		}
	}
	if a.Hi < a.Lo {
		return api.ErrShape
	}
	return api.OK
}

// checkMeant asks one call, and holds it against what is meant.
func checkMeant(t *testing.T, m meant, a, b api.Span) {
	t.Helper()
	for _, told := range []api.Errno{wrong(a), wrong(b)} {
		if told != api.OK {
			checkCall(t, m.name, m.call, a, b, api.Span{}, told)
			return
		}
	}
	want, told := m.tell(a, b)
	checkCall(t, m.name, m.call, a, b, want, told)
}

// spansOf gives all spans whose ends are of these numbers, those the wrong way round too.
func spansOf(numbers []int) []api.Span {
	var all []api.Span
	for _, lo := range numbers {
		for _, hi := range numbers {
			all = append(all, api.Span{Lo: lo, Hi: hi})
		}
	}
	return all
}

func checkAll(t *testing.T, numbers []int) {
	t.Helper()
	all := spansOf(numbers)
	for _, a := range all {
		if got := plain.Told(span.Check(a)); got != wrong(a) {
			t.Errorf("Check(%v) = %v; want %v", a, got, wrong(a))
		}
		for _, b := range all {
			for _, m := range calls {
				checkMeant(t, m, a, b)
			}
		}
	}
}

func TestAllOfEdges(t *testing.T) {
	checkAll(t, []int{math.MinInt, -most - 1, -most, -1001, -1, 0, 1, 999, most - 1, most, most + 1, math.MaxInt})
}

func TestAllOfRounded(t *testing.T) {
	checkAll(t, []int{-31622777, -2718, -1000, -37, 0, 3, 613, 1000, 1414, 31623, 997008974})
}

// TestWrongFirst asks which of a and b is told, where both are wrong.
func TestWrongFirst(t *testing.T) {
	for _, m := range calls {
		checkRows(t, m.name, m.call, []row{
			{[2]int{1, 0}, [2]int{0, most + 1}, none, api.ErrShape},
			{[2]int{0, most + 1}, [2]int{1, 0}, none, api.ErrRange},
			{[2]int{-most - 1, 0}, [2]int{0, 0}, none, api.ErrRange},
			{[2]int{0, 0}, [2]int{-most - 1, 0}, none, api.ErrRange},
			{[2]int{0, 0}, [2]int{1, 0}, none, api.ErrShape},
			{[2]int{2, 1}, [2]int{1, 1}, none, api.ErrShape},
			// What is made of them would be beyond what may be as well.
			{[2]int{most, most}, [2]int{most, most - 1}, none, api.ErrShape},
			{[2]int{most, -most}, [2]int{most, most}, none, api.ErrShape},
			{[2]int{most, most}, [2]int{most, most + 1}, none, api.ErrRange},
			// What is made of them would wrap round.
			{[2]int{math.MinInt, math.MaxInt}, [2]int{math.MinInt, math.MaxInt}, none, api.ErrRange},
			{[2]int{math.MaxInt, math.MaxInt}, [2]int{1, 1}, none, api.ErrRange},
			{[2]int{1, 1}, [2]int{math.MinInt, math.MinInt}, none, api.ErrRange},
			{[2]int{math.MinInt, math.MinInt}, [2]int{-1, -1}, none, api.ErrRange},
		})
	}
}

// TestIn asks whether what is in both is in what is made of them, number by number.
func TestIn(t *testing.T) {
	var all []api.Span
	for lo := -4; lo <= 4; lo++ {
		for hi := lo; hi <= 4; hi++ {
			all = append(all, api.Span{Lo: lo * 700, Hi: hi * 700})
		}
	}
	for _, a := range all {
		for _, b := range all {
			sum, _ := span.Add(a, b)
			rest, _ := span.Less(a, b)
			product, _ := span.Times(a, b)
			quotient, zero := span.By(a, b)
			for x := a.Lo; x <= a.Hi; x += 350 {
				for y := b.Lo; y <= b.Hi; y += 350 {
					in := isIn(x+y, 1, sum) && isIn(x-y, 1, rest) && isIn(x*y, 1000, product)
					if !in || zero == nil && !isIn(x*1000, y, quotient) {
						t.Errorf("%d of %v and %d of %v: not in what is made of them", x, a, y, b)
					}
				}
			}
		}
	}
}

// isIn tells whether n by d is in a span; d is not 0.
func isIn(n, d int, s api.Span) bool {
	if d < 0 {
		n, d = -n, -d
	}
	return s.Lo*d <= n && n <= s.Hi*d
}

func FuzzTwo(f *testing.F) {
	f.Add(1000, 2000, -3000, -1)
	f.Add(-most, most, 1, most)
	f.Add(0, 0, -1, 1)
	f.Fuzz(func(t *testing.T, aLo, aHi, bLo, bHi int) {
		for _, m := range calls {
			checkMeant(t, m, api.Span{Lo: aLo, Hi: aHi}, api.Span{Lo: bLo, Hi: bHi})
			// Most ints are none that may be, so they are brought near as well.
			checkMeant(t, m, api.Span{Lo: aLo % most, Hi: aHi % most}, api.Span{Lo: bLo % most, Hi: bHi % most})
		}
	})
}
