package log_test

import (
	"fmt"
	"math"
	"slices"
	"testing"

	"spanmeadow/api"
	"spanmeadow/log"
	"spanmeadow/plain"
)

// top is the greatest number that may be.
const top = api.MaxNumber

// behind is what is laid behind a list's length, and over what was handed in or told, to tell whether memory is shared.
const behind = 4711

// sides of a box, by their ends.
type sides [][2]int

// box of these sides; of none nil stays nil, so that it is asked too.
func (l sides) box() []api.Span {
	if l == nil {
		return nil
	}
	b := make([]api.Span, len(l))
	for i, ends := range l {
		b[i] = api.Span{Lo: ends[0], Hi: ends[1]}
	}
	return b
}

// goodBoxes have nothing wrong with them: of one, two and three sides, in this order.
var goodBoxes = [][]sides{
	{
		{{0, 0}}, {{1, 1}}, {{-1, -1}}, {{0, 1}}, {{-1, 0}}, {{-1, 1}},
		{{1000, 2500}}, {{-2500, -1000}}, {{-2500, 1000}}, {{127, 128}}, {{-129, -128}}, {{255, 256}}, {{-256, -255}},
		{{32767, 32768}}, {{-32769, -32768}}, {{65535, 65536}}, {{-65537, -65536}}, {{16777215, 16777216}},
		{{top, top}}, {{-top, -top}}, {{-top, top}}, {{top - 1, top}}, {{-top, 1 - top}}, {{0, top}}, {{-top, 0}},
		{{4, 4}}, {{4, 4}}, {{4, 4}},
	},
	{
		{{0, 0}, {0, 0}}, {{1, 2}, {3, 4}}, {{-4, -3}, {-2, -1}}, {{-1, 2}, {3, 3}}, {{3, 3}, {-1, 2}},
		{{top, top}, {-top, -top}}, {{-top, top}, {-top, top}}, {{-top, -top}, {top, top}}, {{0, top}, {-top, 0}},
		{{0, 0}, {513, 70000}}, {{513, 70000}, {0, 0}}, {{1, 2}, {3, 4}}, {{1, 2}, {3, 4}},
	},
	{
		{{0, 0}, {0, 0}, {0, 0}}, {{1, 2}, {3, 4}, {5, 6}}, {{-6, -5}, {-4, -3}, {-2, -1}}, {{5, 5}, {-1000, 2000}, {-9, -9}},
		{{top, top}, {-top, top}, {-top, -top}}, {{-top, top}, {-top, top}, {-top, top}}, {{0, 0}, {0, 0}, {0, top}},
		{{-top, 0}, {0, 0}, {0, 0}}, {{1, 2}, {3, 4}, {5, 6}}, {{1, 2}, {3, 4}, {5, 6}},
	},
}

// wrongBoxes are boxes with a fault, and which; where several are wrong with one, what is told first.
var wrongBoxes = []struct {
	b    sides
	told api.Errno
}{
	{nil, api.ErrNone},
	{sides{}, api.ErrNone},
	{sides{{0, 1}, {0, 1}, {0, 1}}[:0], api.ErrNone},
	{sides{{0, 1}, {0, 1}, {0, 1}, {0, 1}}, api.ErrFull},
	{sides{{1, 0}, {0, top + 1}, {0, 1}, {0, 1}}, api.ErrFull},
	{make(sides, 1000), api.ErrFull},
	{sides{{0, top + 1}}, api.ErrRange},
	{sides{{-top - 1, 0}}, api.ErrRange},
	{sides{{math.MinInt, math.MaxInt}}, api.ErrRange},
	{sides{{math.MaxInt, math.MinInt}}, api.ErrRange},
	{sides{{1 << 32, 1 << 32}}, api.ErrRange},
	{sides{{0, 1}, {0, top + 1}}, api.ErrRange},
	{sides{{math.MinInt, 1}, {0, 1}}, api.ErrRange},
	{sides{{0, 1}, {-top - 1, 0}, {0, 1}}, api.ErrRange},
	{sides{{0, 1}, {0, 1}, {0, math.MaxInt}}, api.ErrRange},
	{sides{{0, 1}, {-top - 1, 0}, {1, 0}}, api.ErrRange},
	{sides{{1, 0}}, api.ErrShape},
	{sides{{top, -top}}, api.ErrShape},
	{sides{{0, 1}, {1, 0}}, api.ErrShape},
	{sides{{1, 0}, {0, 1}, {0, 1}}, api.ErrShape},
	{sides{{0, 1}, {0, 1}, {-1, -2}}, api.ErrShape},
	{sides{{0, 1}, {1, 0}, {-top - 1, 0}}, api.ErrShape},
}

// farInts are numbers at which reckoning with how many may wrap round.
var farInts = []int{math.MinInt, math.MinInt + 1, -1 << 32, 1 << 32, math.MaxInt - 1, math.MaxInt}

// spoil writes over all of a list's memory; where that changes another list, or what is kept, the two share it.
func spoil(b []api.Span) {
	all := b[:cap(b)]
	for i := range all {
		all[i] = api.Span{Lo: behind, Hi: -behind}
	}
}

// newLog makes a Log that there may be.
func newLog(t *testing.T, many int) *log.Log {
	t.Helper()
	l, err := log.New(many)
	if l == nil || err != nil {
		t.Fatalf("New(%d) = %v, %v", many, l, err)
	}
	return l
}

// put hands in a box, with memory behind its length, and writes over all of it afterwards, so that a Log that keeps
// what it is handed, instead of what stands there, tells something else later.
func put(t *testing.T, l *log.Log, b []api.Span) api.Errno {
	t.Helper()
	after := api.Span{Lo: behind, Hi: -behind}
	all := append(slices.Clone(b), after, after)
	before := slices.Clone(all)
	list := all[:len(b)]
	if b == nil {
		list = nil
	}
	err := l.Put(list)
	if !slices.Equal(all, before) {
		t.Errorf("Put(%v) changed what it was handed", b)
	}
	spoil(all)
	return plain.Told(err)
}

func checkPut(t *testing.T, l *log.Log, b []api.Span, told api.Errno) {
	t.Helper()
	if got := put(t, l, b); got != told {
		t.Errorf("Put(%v) = %v; want %v", b, got, told)
	}
}

func checkSync(t *testing.T, l *log.Log, told api.Errno) {
	t.Helper()
	if err := l.Sync(); plain.Told(err) != told {
		t.Errorf("Sync() = %v; want %v", err, told)
	}
}

// hullOf boxes, from all their ends.
func hullOf(boxes [][]api.Span) []api.Span {
	var hull []api.Span
	for i, b := range boxes {
		if i == 0 {
			hull = slices.Clone(b)
		}
		for k, side := range b {
			hull[k] = api.Span{Lo: min(hull[k].Lo, side.Lo), Hi: max(hull[k].Hi, side.Hi)}
		}
	}
	return hull
}

// checkHolds asks a Log all that it tells, and writes over it, so that what it tells the next time shows whether that
// was its own.
func checkHolds(t *testing.T, l *log.Log, boxes [][]api.Span, bytes, safe int) {
	t.Helper()
	all := l.All()
	if !slices.EqualFunc(all, boxes, slices.Equal) {
		t.Errorf("All() = %v; want %v", all, boxes)
	}
	if len(boxes) == 0 && all != nil {
		t.Errorf("All() = %v of no box; want nil", all)
	}
	told := api.OK
	if len(boxes) == 0 {
		told = api.ErrNone
	}
	hull, err := l.Hull()
	if want := hullOf(boxes); !slices.Equal(hull, want) || plain.Told(err) != told {
		t.Errorf("Hull() = %v, %v of %v; want %v, %v", hull, err, boxes, want, told)
	}
	if l.Bytes() != bytes || l.Safe() != safe {
		t.Errorf("Bytes() = %d, Safe() = %d; want %d, %d", l.Bytes(), l.Safe(), bytes, safe)
	}
	spoil(hull)
	for _, b := range all {
		spoil(b)
	}
}

// size of the record of a box: as many bytes as there are where it alone is put.
func size(t *testing.T, b []api.Span) int {
	t.Helper()
	l := newLog(t, len(b))
	checkPut(t, l, b, api.OK)
	return l.Bytes()
}

// boxesOf so many sides, as many as asked for, from the good ones, again and again.
func boxesOf(many, count int) [][]api.Span {
	var boxes [][]api.Span
	good := goodBoxes[many-1]
	for i := range count {
		boxes = append(boxes, good[i%len(good)].box())
	}
	return boxes
}

// sizes of the records of boxes, all together.
func sizes(t *testing.T, boxes [][]api.Span) int {
	t.Helper()
	sum := 0
	for _, b := range boxes {
		sum += size(t, b)
	}
	return sum
}

// filled is a Log with boxes, of which the first so many are safe.
func filled(t *testing.T, many int, boxes [][]api.Span, safe int) *log.Log {
	t.Helper()
	l := newLog(t, many)
	for i, b := range boxes {
		if i == safe {
			checkSync(t, l, api.OK)
		}
		checkPut(t, l, b, api.OK)
	}
	if safe >= len(boxes) {
		checkSync(t, l, api.OK)
	}
	return l
}

// stopped is likewise one that stopped at a Put of a box, or, where that is nil, at a Sync.
func stopped(t *testing.T, many int, boxes [][]api.Span, safe int, b []api.Span) *log.Log {
	t.Helper()
	l := filled(t, many, boxes, safe)
	l.Fail(0)
	if b == nil {
		checkSync(t, l, api.ErrState)
	} else {
		checkPut(t, l, b, api.ErrState)
	}
	return l
}

func TestNew(t *testing.T) {
	for many := 1; many <= api.MaxSides; many++ {
		checkHolds(t, newLog(t, many), nil, 0, 0)
	}
	for _, many := range append([]int{0, api.MaxSides + 1, -1, -api.MaxSides, 1000, -1000}, farInts...) {
		if l, err := log.New(many); l != nil || plain.Told(err) != api.ErrRange {
			t.Errorf("New(%d) = %v, %v; want nil, ErrRange", many, l, err)
		}
	}
}

// TestNewTakesBoxesOfItsSides: those, and no others.
func TestNewTakesBoxesOfItsSides(t *testing.T) {
	for many := 1; many <= api.MaxSides; many++ {
		for other := 1; other <= api.MaxSides; other++ {
			told := api.ErrShape
			if other == many {
				told = api.OK
			}
			checkPut(t, newLog(t, many), boxesOf(other, 2)[1], told)
		}
	}
}

// TestNewOnes: what is put into one Log is in no other.
func TestNewOnes(t *testing.T) {
	a, b, c := newLog(t, 1), newLog(t, 1), newLog(t, 1)
	boxes := boxesOf(1, 3)
	for _, one := range boxes {
		checkPut(t, a, one, api.OK)
	}
	checkPut(t, b, boxes[2], api.OK)
	checkSync(t, b, api.OK)
	c.Fail(0)
	checkSync(t, c, api.ErrState)
	checkPut(t, c, boxes[0], api.ErrState)
	checkHolds(t, a, boxes, sizes(t, boxes), 0)
	checkHolds(t, b, boxes[2:], size(t, boxes[2]), size(t, boxes[2]))
	checkHolds(t, c, nil, 0, 0)
	b.Crash(0)
	a.Crash(0)
	checkHolds(t, a, nil, 0, 0)
	checkHolds(t, b, boxes[2:], size(t, boxes[2]), size(t, boxes[2]))
}

// TestPut: each box alone, and behind the others.
func TestPut(t *testing.T) {
	for i, good := range goodBoxes {
		for _, s := range good {
			l := newLog(t, i+1)
			checkPut(t, l, s.box(), api.OK)
			if l.Bytes() < 2 {
				t.Errorf("the record of %v has %d bytes; want 2 at least", s, l.Bytes())
			}
			checkHolds(t, l, [][]api.Span{s.box()}, l.Bytes(), 0)
		}
		for start := range good {
			putOneByOne(t, i+1, append(slices.Clone(good[start:]), good[:start]...))
		}
	}
}

func putOneByOne(t *testing.T, many int, good []sides) {
	t.Helper()
	l := newLog(t, many)
	var boxes [][]api.Span
	bytes := 0
	for _, s := range good[:min(len(good), api.MaxDone)] {
		checkPut(t, l, s.box(), api.OK)
		boxes = append(boxes, s.box())
		if l.Bytes() < bytes+2 {
			t.Errorf("Put(%v) makes %d bytes of %d; want 2 more at least", s, l.Bytes(), bytes)
		}
		bytes = l.Bytes()
		checkHolds(t, l, boxes, bytes, 0)
	}
}

// TestPutSame: the same box again and again is as many boxes.
func TestPutSame(t *testing.T) {
	for i, good := range goodBoxes {
		for _, s := range good {
			l := newLog(t, i+1)
			for n := range api.MaxDone {
				checkPut(t, l, s.box(), api.OK)
				checkHolds(t, l, slices.Repeat([][]api.Span{s.box()}, n+1), (n+1)*size(t, s.box()), 0)
			}
		}
	}
}

// TestPutAllNumbers: numbers whose bits are of every kind, at either end, come back.
func TestPutAllNumbers(t *testing.T) {
	var numbers []int
	for shift := range 30 {
		for _, n := range []int{1<<shift - 1, 1 << shift, 1<<shift + 1, 0x2a5c3f71 >> shift} {
			if n <= top {
				numbers = append(numbers, n, -n)
			}
		}
	}
	for _, n := range append(numbers, top, -top, top-1, 1-top) {
		for _, s := range []sides{{{n, n}}, {{n, top}}, {{-top, n}}} {
			l := newLog(t, 1)
			checkPut(t, l, s.box(), api.OK)
			checkHolds(t, l, [][]api.Span{s.box()}, l.Bytes(), 0)
		}
		l := newLog(t, 3)
		s := sides{{n, top}, {-top, n}, {n, n}}
		checkPut(t, l, s.box(), api.OK)
		checkHolds(t, l, [][]api.Span{s.box()}, l.Bytes(), 0)
	}
}

// otherBoxes are those that a Log of so many sides refuses, and what it tells.
func otherBoxes(many int) ([][]api.Span, []api.Errno) {
	var boxes [][]api.Span
	var told []api.Errno
	for _, w := range wrongBoxes {
		boxes, told = append(boxes, w.b.box()), append(told, w.told)
	}
	for other := 1; other <= api.MaxSides; other++ {
		if other == many {
			continue
		}
		for _, b := range boxesOf(other, 6) {
			boxes, told = append(boxes, b), append(told, api.ErrShape)
		}
	}
	return boxes, told
}

// TestPutWrong: what is refused changes nothing, neither what is told nor when it stops.
func TestPutWrong(t *testing.T) {
	for many := 1; many <= api.MaxSides; many++ {
		wrong, told := otherBoxes(many)
		for _, count := range []int{0, 1, 5, api.MaxDone - 1} {
			boxes := boxesOf(many, count)
			safe := count / 2
			l := filled(t, many, boxes, safe)
			bytes := sizes(t, boxes)
			l.Fail(1)
			for i, b := range wrong {
				checkPut(t, l, b, told[i])
				checkHolds(t, l, boxes, bytes, sizes(t, boxes[:safe]))
			}
			checkSync(t, l, api.OK)
			for i, b := range wrong {
				checkPut(t, l, b, told[i])
				checkHolds(t, l, boxes, bytes, bytes)
			}
			checkPut(t, l, boxesOf(many, 1)[0], api.ErrState)
		}
	}
}

// TestPutFull: the twentieth is the last, and whatever comes behind it is told so.
func TestPutFull(t *testing.T) {
	for many := 1; many <= api.MaxSides; many++ {
		boxes := boxesOf(many, api.MaxDone)
		bytes := sizes(t, boxes)
		wrong, _ := otherBoxes(many)
		for _, safe := range []int{0, 7, api.MaxDone} {
			l := filled(t, many, boxes, safe)
			checkHolds(t, l, boxes, bytes, sizes(t, boxes[:safe]))
			l.Fail(0)
			for _, b := range append(boxesOf(many, 10), wrong...) {
				checkPut(t, l, b, api.ErrFull)
				checkHolds(t, l, boxes, bytes, sizes(t, boxes[:safe]))
			}
			// None of these was a step, so this is the next one.
			checkSync(t, l, api.ErrState)
			checkPut(t, l, boxes[0], api.ErrState)
			checkHolds(t, l, boxes, bytes, sizes(t, boxes[:safe]))
		}
	}
}

// TestPutFullAgain: what is lost makes room, and no more than that.
func TestPutFullAgain(t *testing.T) {
	boxes := boxesOf(2, api.MaxDone)
	for safe := range api.MaxDone + 1 {
		l := filled(t, 2, boxes, safe)
		l.Crash(0)
		for i := range api.MaxDone - safe {
			checkPut(t, l, boxes[i], api.OK)
		}
		checkPut(t, l, boxes[0], api.ErrFull)
		all := append(slices.Clone(boxes[:safe]), boxes[:api.MaxDone-safe]...)
		checkHolds(t, l, all, sizes(t, all), sizes(t, boxes[:safe]))
	}
}

// TestPutStopsAtLast: the twentieth is not there where it stops at it, and there is room for it behind a crash.
func TestPutStopsAtLast(t *testing.T) {
	boxes := boxesOf(3, api.MaxDone)
	last := boxes[api.MaxDone-1]
	l := stopped(t, 3, boxes[:api.MaxDone-1], 4, last)
	checkHolds(t, l, boxes[:api.MaxDone-1], sizes(t, boxes[:api.MaxDone-1])+size(t, last)/2, sizes(t, boxes[:4]))
	l.Crash(math.MaxInt)
	checkPut(t, l, last, api.OK)
	checkPut(t, l, last, api.ErrFull)
	checkHolds(t, l, boxes, sizes(t, boxes), sizes(t, boxes[:api.MaxDone-1]))
}

func TestSync(t *testing.T) {
	for many := 1; many <= api.MaxSides; many++ {
		l := newLog(t, many)
		checkSync(t, l, api.OK)
		checkHolds(t, l, nil, 0, 0)
		boxes := boxesOf(many, api.MaxDone)
		for i, b := range boxes {
			checkPut(t, l, b, api.OK)
			checkHolds(t, l, boxes[:i+1], sizes(t, boxes[:i+1]), sizes(t, boxes[:i]))
			for range 1 + i%3 {
				checkSync(t, l, api.OK)
				checkHolds(t, l, boxes[:i+1], sizes(t, boxes[:i+1]), sizes(t, boxes[:i+1]))
			}
		}
	}
}

// TestSyncSome: what is put behind it is not safe, till the next one.
func TestSyncSome(t *testing.T) {
	boxes := boxesOf(2, 7)
	for safe := range len(boxes) + 1 {
		l := filled(t, 2, boxes, safe)
		checkHolds(t, l, boxes, sizes(t, boxes), sizes(t, boxes[:safe]))
		checkSync(t, l, api.OK)
		checkHolds(t, l, boxes, sizes(t, boxes), sizes(t, boxes))
	}
}

// failing: calls of a Log of one side, and what is told. A p puts a box and s is a Sync; w puts a box that is wrong, and
// o one of other sides; a digit is a Fail of so many, m one below 0, l and g ones of the least and the greatest int; c
// crashes it, and all is kept. Told are . of a call without an error, S of ErrState, R of ErrRange, H of ErrShape.
type failing struct{ calls, told string }

var failings = []failing{
	// Never, where it is not said.
	{"pspspspspspspspsp", "................."},
	{"ssssssssssssssssssssssss", "........................"},
	// The next, and so many from now.
	{"0p", ".S"},
	{"0s", ".S"},
	{"1pp", "..S"},
	{"1ss", "..S"},
	{"1ps", "..S"},
	{"1sp", "..S"},
	{"2ppp", "...S"},
	{"2psp", "...S"},
	{"2spp", "...S"},
	{"2sss", "...S"},
	{"3ppss", "....S"},
	{"5pspsps", "......S"},
	{"9pppppppppp", "..........S"},
	{"pp0p", "...S"},
	{"ps2psp", ".....S"},
	// What is refused for another reason is no step.
	{"0wowowp", ".RHRHRS"},
	{"0oooos", ".HHHHS"},
	{"1wpws", ".R.RS"},
	{"2wwpoospwws", ".RR.HH.SSSS"},
	{"1opopo", ".H.HSS"},
	// Below 0, and one that never comes.
	{"mpspspspspsp", "............"},
	{"lpspspspspsp", "............"},
	{"gpspspspspsp", "............"},
	// A new one in the place of the one ahead, from where it is said.
	{"0mpsps", "......"},
	{"0lpsps", "......"},
	{"0gpsps", "......"},
	{"01pps", "...SS"},
	{"10pp", "..SS"},
	{"m0p", "..S"},
	{"l0s", "..S"},
	{"g1ps", "...S"},
	{"2pp2sps", "......S"},
	{"2p2p2p2s2ppp", "...........S"},
	{"1pmpspsp", "........"},
	{"3pp9spspspspsp", ".............S"},
	{"000p", "...S"},
	// All is refused from then on, whatever Fail says, and what is wrong besides.
	{"0ppspwsowo", ".SSSSSSSSS"},
	{"0sspwo", ".SSSSS"},
	{"0pmpsgplsw", ".S.SS.S.SS"},
	{"0s9psp", ".S.SSS"},
	// Till it crashes: and what was said is forgotten, also what was said since.
	{"0pcpspspsp", ".S........"},
	{"0scpspspsp", ".S........"},
	{"0p0cpspsps", ".S........"},
	{"0s1cpspsps", ".S........"},
	{"0cpspsp", "......."},
	{"2pcpspsp", "........"},
	{"mcpspsp", "......."},
	{"gcpspsp", "......."},
	{"0pc0sc1psc", ".S..S...S."},
	{"0pccpwps", ".S...R.."},
	{"c0p", "..S"},
	{"cc1pp", "....S"},
}

// tellings are the marks of what is told.
var tellings = []struct {
	told api.Errno
	mark string
}{{api.OK, "."}, {api.ErrState, "S"}, {api.ErrRange, "R"}, {api.ErrShape, "H"}, {api.ErrFull, "F"}, {api.ErrNone, "N"}}

func mark(told api.Errno) string {
	for _, m := range tellings {
		if m.told == told {
			return m.mark
		}
	}
	return "?"
}

// called does a call of a failing, and tells its mark.
func called(t *testing.T, l *log.Log, call rune) string {
	t.Helper()
	switch call {
	case 'p':
		return mark(put(t, l, sides{{-3, 300}}.box()))
	case 'w':
		return mark(put(t, l, sides{{0, top + 1}}.box()))
	case 'o':
		return mark(put(t, l, sides{{0, 1}, {0, 1}}.box()))
	case 's':
		return mark(plain.Told(l.Sync()))
	case 'm':
		l.Fail(-1)
	case 'l':
		l.Fail(math.MinInt)
	case 'g':
		l.Fail(math.MaxInt)
	case 'c':
		l.Crash(math.MaxInt)
	default:
		l.Fail(int(call - '0'))
	}
	return "."
}

func TestFail(t *testing.T) {
	for _, c := range failings {
		l := newLog(t, 1)
		told := ""
		for _, call := range c.calls {
			told += called(t, l, call)
		}
		if told != c.told {
			t.Errorf("%s tells %s; want %s", c.calls, told, c.told)
		}
	}
}

// failSteps are the numbers that a Log is told to fail in, where each has another one behind it.
var failSteps = []int{0, 1, 2, 3, 7, 19, 20, 40}

// TestFailSteps: at just that step, whichever steps are ahead of it.
func TestFailSteps(t *testing.T) {
	for _, n := range failSteps {
		for every := 2; every < 6; every++ {
			l := newLog(t, 1)
			l.Fail(n)
			for i := range n + 1 {
				told := api.OK
				if i == n {
					told = api.ErrState
				}
				// There are never more boxes than may be: most are Syncs.
				if i%every == 1 && i/every < api.MaxDone {
					checkPut(t, l, sides{{i, i}}.box(), told)
				} else {
					checkSync(t, l, told)
				}
			}
		}
	}
}

// TestStopsAtPut: half the record is there, rounded down, and the boxes are as they were.
func TestStopsAtPut(t *testing.T) {
	for many := 1; many <= api.MaxSides; many++ {
		boxes := boxesOf(many, 5)
		for count := range len(boxes) {
			for safe := range count + 1 {
				for _, b := range boxesOf(many, len(goodBoxes[many-1])) {
					l := stopped(t, many, boxes[:count], safe, b)
					checkHolds(t, l, boxes[:count], sizes(t, boxes[:count])+size(t, b)/2, sizes(t, boxes[:safe]))
				}
			}
		}
	}
}

// TestStopsAtSync: nothing is there that was not, and nothing is safe that was not.
func TestStopsAtSync(t *testing.T) {
	for many := 1; many <= api.MaxSides; many++ {
		boxes := boxesOf(many, 5)
		for count := range len(boxes) + 1 {
			for safe := range count + 1 {
				l := stopped(t, many, boxes[:count], safe, nil)
				checkHolds(t, l, boxes[:count], sizes(t, boxes[:count]), sizes(t, boxes[:safe]))
			}
		}
	}
}

// TestStopped: all is refused, ahead of whatever else is wrong, and nothing changes, whatever Fail says.
func TestStopped(t *testing.T) {
	for many := 1; many <= api.MaxSides; many++ {
		wrong, _ := otherBoxes(many)
		for _, count := range []int{0, 3, api.MaxDone - 1} {
			boxes := boxesOf(many, count)
			for _, at := range [][]api.Span{nil, boxesOf(many, 2)[1]} {
				checkRefuses(t, stopped(t, many, boxes, count/2, at), append(wrong, boxesOf(many, 5)...))
			}
		}
		// One that is full as well.
		boxes := boxesOf(many, api.MaxDone)
		checkRefuses(t, stopped(t, many, boxes, 3, nil), append(wrong, boxes...))
	}
}

func checkRefuses(t *testing.T, l *log.Log, boxes [][]api.Span) {
	t.Helper()
	there, bytes, safe := l.All(), l.Bytes(), l.Safe()
	for _, n := range append([]int{-1, 0, 1, 5}, farInts...) {
		for _, b := range boxes {
			checkPut(t, l, b, api.ErrState)
		}
		checkSync(t, l, api.ErrState)
		checkHolds(t, l, there, bytes, safe)
		l.Fail(n)
	}
}

// kept are the boxes that are left where so many bytes are: those whose records are whole.
func kept(t *testing.T, boxes [][]api.Span, bytes int) [][]api.Span {
	t.Helper()
	for i, b := range boxes {
		bytes -= size(t, b)
		if bytes < 0 {
			return boxes[:i]
		}
	}
	return boxes
}

// checkGoesOn: it takes boxes and Syncs as one that never stopped, with those boxes in it and no others.
func checkGoesOn(t *testing.T, l *log.Log, many int, left [][]api.Span) {
	t.Helper()
	bytes := sizes(t, left)
	checkHolds(t, l, left, bytes, bytes)
	more := boxesOf(many, 3)
	all := slices.Clone(left)
	for _, b := range more {
		checkPut(t, l, b, api.OK)
		all = append(all, b)
		checkHolds(t, l, all, sizes(t, all), bytes)
	}
	checkSync(t, l, api.OK)
	checkHolds(t, l, all, sizes(t, all), sizes(t, all))
	checkPut(t, l, more[1], api.OK)
	l.Crash(-1)
	checkHolds(t, l, all, sizes(t, all), sizes(t, all))
}

// crashing: a Log with boxes, of which the first so many are safe, and how it stopped.
type crashing struct {
	many  int
	boxes [][]api.Span
	safe  int
	stops bool
	at    []api.Span
}

func (c crashing) log(t *testing.T) *log.Log {
	t.Helper()
	if !c.stops {
		l := filled(t, c.many, c.boxes, c.safe)
		l.Fail(2) // To be forgotten.
		return l
	}
	return stopped(t, c.many, c.boxes, c.safe, c.at)
}

// crashings are no box, and boxes of which all, some and none are safe, each of them stopped in each way.
func crashings() []crashing {
	var all []crashing
	for many := 1; many <= api.MaxSides; many++ {
		boxes := boxesOf(many, 4)
		for count := range len(boxes) + 1 {
			for safe := range count + 1 {
				c := crashing{many: many, boxes: boxes[:count], safe: safe}
				sync, put := c, c
				sync.stops = true
				put.stops, put.at = true, boxesOf(many, 6)[5]
				all = append(all, c, sync, put)
			}
		}
	}
	return all
}

// TestCrash: of what is not safe so many bytes are left, and of these the whole records.
func TestCrash(t *testing.T) {
	for _, c := range crashings() {
		open := c.log(t).Bytes() - c.log(t).Safe()
		for keep := -2; keep <= open+2; keep++ {
			l := c.log(t)
			l.Crash(keep)
			checkGoesOn(t, l, c.many, kept(t, c.boxes, sizes(t, c.boxes[:c.safe])+max(keep, 0)))
		}
		for _, keep := range farInts {
			l, left := c.log(t), c.boxes
			if keep < 0 {
				left = c.boxes[:c.safe]
			}
			l.Crash(keep)
			checkGoesOn(t, l, c.many, left)
		}
	}
}

// TestCrashAgain: once more changes nothing, as all that is left is safe.
func TestCrashAgain(t *testing.T) {
	for _, c := range crashings() {
		open := c.log(t).Bytes() - c.log(t).Safe()
		for keep := 0; keep <= open; keep += 3 {
			l := c.log(t)
			l.Crash(keep)
			left := kept(t, c.boxes, sizes(t, c.boxes[:c.safe])+keep)
			for _, more := range append([]int{0, 1, 100, -1}, farInts...) {
				l.Crash(more)
				checkHolds(t, l, left, sizes(t, left), sizes(t, left))
			}
			checkGoesOn(t, l, c.many, left)
		}
	}
}

// TestCrashOnAndOn: with boxes put, some safe, some not, and stops, between one crash and the next.
func TestCrashOnAndOn(t *testing.T) {
	for many := 1; many <= api.MaxSides; many++ {
		l := newLog(t, many)
		boxes := boxesOf(many, 9)
		one := size(t, boxes[0])
		checkPut(t, l, boxes[0], api.OK)
		checkSync(t, l, api.OK)
		checkPut(t, l, boxes[1], api.OK)
		l.Crash(0)
		checkHolds(t, l, boxes[:1], one, one)
		l.Fail(1)
		checkPut(t, l, boxes[1], api.OK)
		checkPut(t, l, boxes[2], api.ErrState)
		l.Crash(math.MaxInt)
		checkHolds(t, l, boxes[:2], sizes(t, boxes[:2]), sizes(t, boxes[:2]))
		l.Fail(0)
		checkSync(t, l, api.ErrState)
		l.Crash(0)
		checkHolds(t, l, boxes[:2], sizes(t, boxes[:2]), sizes(t, boxes[:2]))
		checkPut(t, l, boxes[2], api.OK)
		checkPut(t, l, boxes[3], api.OK)
		l.Crash(size(t, boxes[2]) + size(t, boxes[3]) - 1)
		checkGoesOn(t, l, many, boxes[:3])
	}
}

// hulls are boxes, and the hull of all of them.
var hulls = []struct {
	boxes []sides
	want  sides
}{
	{[]sides{{{3, 3}}}, sides{{3, 3}}},
	{[]sides{{{-top, top}}}, sides{{-top, top}}},
	{[]sides{{{3, 5}}, {{4, 9}}}, sides{{3, 9}}},
	{[]sides{{{4, 9}}, {{3, 5}}}, sides{{3, 9}}},
	{[]sides{{{3, 9}}, {{4, 5}}}, sides{{3, 9}}},
	{[]sides{{{4, 5}}, {{3, 9}}}, sides{{3, 9}}},
	{[]sides{{{-7, -5}}, {{5, 7}}}, sides{{-7, 7}}},
	{[]sides{{{top, top}}, {{-top, -top}}}, sides{{-top, top}}},
	{[]sides{{{0, 0}}, {{5, 5}}, {{-5, -5}}, {{1, 2}}}, sides{{-5, 5}}},
	{[]sides{{{0, 0}}, {{1, 2}}, {{1, 2}}, {{8, 9}}}, sides{{0, 9}}},
	{[]sides{{{0, 1}, {5, 6}}, {{-3, 0}, {7, 7}}}, sides{{-3, 1}, {5, 7}}},
	{[]sides{{{0, 1}, {5, 6}}, {{0, 1}, {5, 6}}}, sides{{0, 1}, {5, 6}}},
	{[]sides{{{0, 1}, {2, 3}, {4, 5}}, {{9, 9}, {-9, -9}, {4, 4}}, {{-1, 0}, {0, 11}, {5, 6}}}, sides{{-1, 9}, {-9, 11}, {4, 6}}},
}

func TestHull(t *testing.T) {
	for many := 1; many <= api.MaxSides; many++ {
		if hull, err := newLog(t, many).Hull(); hull != nil || plain.Told(err) != api.ErrNone {
			t.Errorf("Hull() = %v, %v of no box; want nil, ErrNone", hull, err)
		}
	}
	for _, c := range hulls {
		l := newLog(t, len(c.want))
		for _, s := range c.boxes {
			checkPut(t, l, s.box(), api.OK)
		}
		for range 2 {
			if hull, err := l.Hull(); !slices.Equal(hull, c.want.box()) || err != nil {
				t.Errorf("Hull() = %v, %v of %v; want %v, nil", hull, err, c.boxes, c.want)
			}
			l.Crash(math.MaxInt)
		}
	}
}

// TestHullOfLeft: what is lost is no more in it, nor what is half there.
func TestHullOfLeft(t *testing.T) {
	l := newLog(t, 1)
	checkPut(t, l, sides{{0, 1}}.box(), api.OK)
	checkSync(t, l, api.OK)
	checkPut(t, l, sides{{5, 6}}.box(), api.OK)
	l.Fail(0)
	checkPut(t, l, sides{{-9, -8}}.box(), api.ErrState)
	for _, want := range []sides{{{0, 6}}, {{0, 1}}} {
		if hull, err := l.Hull(); !slices.Equal(hull, want.box()) || err != nil {
			t.Errorf("Hull() = %v, %v; want %v, nil", hull, err, want)
		}
		l.Crash(0)
	}
	gone := newLog(t, 1)
	checkPut(t, gone, sides{{0, 1}}.box(), api.OK)
	gone.Crash(0)
	if hull, err := gone.Hull(); hull != nil || plain.Told(err) != api.ErrNone {
		t.Errorf("Hull() = %v, %v behind a crash that left none; want nil, ErrNone", hull, err)
	}
}

// TestFresh: no two lists that are told share memory, of one call or of several, nor with the Log.
func TestFresh(t *testing.T) {
	for many := 1; many <= api.MaxSides; many++ {
		for _, count := range []int{1, 2, api.MaxDone} {
			boxes := boxesOf(many, count)
			l := filled(t, many, boxes, count/2)
			first, second := l.All(), l.All()
			hull, err := l.Hull()
			again, errAgain := l.Hull()
			if err != nil || errAgain != nil {
				t.Fatalf("Hull() = %v, then %v", err, errAgain)
			}
			for i, b := range first {
				spoil(b)
				if !slices.EqualFunc(first[i+1:], boxes[i+1:], slices.Equal) {
					t.Errorf("box %d of %v shares memory with another one", i, boxes)
				}
			}
			clear(first[:cap(first)])
			spoil(hull)
			if !slices.EqualFunc(second, boxes, slices.Equal) || !slices.Equal(again, hullOf(boxes)) {
				t.Errorf("what is told of %v shares memory with what was told before", boxes)
			}
			checkHolds(t, l, boxes, sizes(t, boxes), sizes(t, boxes[:count/2]))
			l.Crash(math.MaxInt)
			checkHolds(t, l, boxes, sizes(t, boxes), sizes(t, boxes))
		}
	}
}

// TestHandedAgain: one list, written over from Put to Put, is another box each time; and all may stand in one list.
func TestHandedAgain(t *testing.T) {
	l := newLog(t, 2)
	b := []api.Span{{Lo: 0, Hi: 0}, {Lo: 0, Hi: 0}}
	var boxes [][]api.Span
	for i := range api.MaxDone {
		b[0], b[1] = api.Span{Lo: -i, Hi: i}, api.Span{Lo: i, Hi: 2 * i}
		if err := l.Put(b); err != nil {
			t.Fatalf("Put(%v) = %v", b, err)
		}
		boxes = append(boxes, slices.Clone(b))
	}
	checkHolds(t, l, boxes, sizes(t, boxes), 0)
	m := newLog(t, 2)
	long := slices.Concat(boxes...)
	for i := range boxes {
		if err := m.Put(long[2*i : 2*i+2]); err != nil {
			t.Fatalf("Put(%v) = %v", long[2*i:2*i+2], err)
		}
	}
	if !slices.Equal(long, slices.Concat(boxes...)) {
		t.Errorf("Put changed what stands around what it was handed")
	}
	spoil(long)
	checkHolds(t, m, boxes, sizes(t, boxes), 0)
}

// meant is what a Log is to be, as the chapter says it.
type meant struct {
	boxes   [][]api.Span
	bytes   int
	safe    int
	left    int // Steps till it stops; -1: never.
	stopped bool
}

// step tells whether it goes well.
func (m *meant) step() bool {
	if m.left == 0 {
		m.stopped = true
	}
	if m.left > 0 {
		m.left--
	}
	return !m.stopped
}

// put a box of which this is wrong, where it is not that there are too many.
func (m *meant) put(t *testing.T, b []api.Span, wrong api.Errno) api.Errno {
	switch {
	case m.stopped:
		return api.ErrState
	case len(m.boxes) == api.MaxDone:
		return api.ErrFull
	case wrong != api.OK:
		return wrong
	case !m.step():
		m.bytes += size(t, b) / 2
		return api.ErrState
	}
	m.boxes = append(slices.Clone(m.boxes), b)
	m.bytes += size(t, b)
	return api.OK
}

func (m *meant) sync() api.Errno {
	if m.stopped || !m.step() {
		return api.ErrState
	}
	m.safe = m.bytes
	return api.OK
}

func (m *meant) fail(n int) { m.left = max(n, -1) }

func (m *meant) crash(t *testing.T, keep int) {
	more := max(keep, 0)
	if more > m.bytes-m.safe {
		more = m.bytes - m.safe
	}
	m.boxes = kept(t, m.boxes, m.safe+more)
	m.bytes = sizes(t, m.boxes)
	m.safe, m.left, m.stopped = m.bytes, -1, false
}

// act is a call of a Log: which, the box of a Put and what is wrong with it, and the number of a Fail or a Crash.
type act struct {
	call  string
	b     sides
	wrong api.Errno
	n     int
}

// of a Log.
func (a act) of(t *testing.T, l *log.Log) api.Errno {
	t.Helper()
	switch a.call {
	case "put":
		return put(t, l, a.b.box())
	case "sync":
		return plain.Told(l.Sync())
	case "fail":
		l.Fail(a.n)
	case "crash":
		l.Crash(a.n)
	}
	return api.OK
}

// ofMeant does likewise with what a Log is to be.
func (a act) ofMeant(t *testing.T, m *meant) api.Errno {
	t.Helper()
	switch a.call {
	case "put":
		return m.put(t, a.b.box(), a.wrong)
	case "sync":
		return m.sync()
	case "fail":
		m.fail(a.n)
	case "crash":
		m.crash(t, a.n)
	}
	return api.OK
}

// play does calls one behind the other, and sees behind each whether all is as it is meant.
func play(t *testing.T, many int, acts []act) {
	t.Helper()
	l, m := newLog(t, many), &meant{left: -1}
	for i, a := range acts {
		want := a.ofMeant(t, m)
		if got := a.of(t, l); got != want {
			t.Errorf("the last call tells %v; want %v", got, want)
		}
		checkHolds(t, l, m.boxes, m.bytes, m.safe)
		if t.Failed() {
			t.Fatalf("that was behind %+v, with %d sides", acts[:i+1], many)
		}
	}
}

// TestAllOrders: some calls in whatever order, each of them as often as one likes.
func TestAllOrders(t *testing.T) {
	one := size(t, sides{{-3, 300}}.box())
	acts := []act{
		{call: "put", b: sides{{-3, 300}}},
		{call: "put", b: sides{{7, 7}}},
		{call: "put", b: sides{{1, 0}}, wrong: api.ErrShape},
		{call: "sync"},
		{call: "fail", n: 0},
		{call: "fail", n: 1},
		{call: "fail", n: -1},
		{call: "crash", n: 0},
		{call: "crash", n: one},
		{call: "crash", n: 2*one - 1},
	}
	var from func(ahead []act)
	from = func(ahead []act) {
		if len(ahead) == 5 {
			play(t, 1, ahead)
			return
		}
		for _, a := range acts {
			from(append(slices.Clone(ahead), a))
		}
	}
	from(nil)
}

// acted makes calls of bytes, for a Log of so many sides.
func acted(many int, bytes []byte) []act {
	wrong, told := otherBoxes(many)
	good := goodBoxes[many-1]
	var acts []act
	for len(bytes) >= 2 {
		kind, n := bytes[0], int(bytes[1])
		bytes = bytes[2:]
		far := append([]int{-1}, farInts...)[n%7]
		switch kind % 10 {
		case 0, 1, 2, 3:
			acts = append(acts, act{call: "put", b: good[n%len(good)]})
		case 4:
			at := n % len(wrong)
			acts = append(acts, act{call: "put", b: sidesOf(wrong[at]), wrong: told[at]})
		case 5, 6:
			acts = append(acts, act{call: "sync"})
		case 7:
			acts = append(acts, act{call: "fail", n: n % 12})
		case 8:
			acts = append(acts, act{call: "crash", n: n})
		case 9:
			acts = append(acts, act{call: []string{"fail", "crash"}[n%2], n: far})
		}
	}
	return acts
}

func sidesOf(b []api.Span) sides {
	if b == nil {
		return nil
	}
	s := make(sides, len(b))
	for i, side := range b {
		s[i] = [2]int{side.Lo, side.Hi}
	}
	return s
}

// TestLongOrders: many calls, one behind the other, made up by a short rule.
func TestLongOrders(t *testing.T) {
	seed := uint32(1)
	for round := range 600 {
		bytes := make([]byte, 2*(round%90))
		for i := range bytes {
			seed = seed*1664525 + 1013904223
			bytes[i] = byte(seed >> 24)
		}
		play(t, 1+round%api.MaxSides, acted(1+round%api.MaxSides, bytes))
	}
}

// TestAgain: the same calls of two Logs, in turn, are told the same.
func TestAgain(t *testing.T) {
	for many := 1; many <= api.MaxSides; many++ {
		logs := []*log.Log{newLog(t, many), newLog(t, many)}
		for _, a := range acted(many, []byte{0, 3, 1, 4, 5, 0, 2, 1, 4, 7, 7, 2, 0, 9, 6, 0, 3, 2, 0, 0, 8, 20, 0, 6, 9, 0, 1, 1, 8, 3}) {
			var told []string
			for _, l := range logs {
				errno := a.of(t, l)
				hull, err := l.Hull()
				told = append(told, fmt.Sprint(errno, l.All(), hull, err, l.Bytes(), l.Safe()))
			}
			if told[0] != told[1] {
				t.Errorf("one Log tells %s, another one %s", told[0], told[1])
			}
		}
	}
}

func FuzzLog(f *testing.F) {
	f.Add(uint8(0), []byte{0, 0, 1, 1, 5, 0, 7, 2, 0, 3, 2, 4, 3, 5, 8, 9, 0, 6})
	f.Add(uint8(1), []byte{0, 1, 0, 2, 5, 0, 7, 1, 0, 3, 0, 4, 8, 30, 0, 5})
	f.Add(uint8(2), []byte{7, 3, 4, 0, 0, 0, 5, 5, 1, 1, 2, 2, 3, 3, 9, 1, 0, 0})
	f.Fuzz(func(t *testing.T, sides uint8, bytes []byte) {
		many := 1 + int(sides)%api.MaxSides
		play(t, many, acted(many, bytes[:min(len(bytes), 400)]))
	})
}
