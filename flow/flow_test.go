package flow_test

import (
	"math"
	"slices"
	"testing"

	"spanmeadow/api"
	"spanmeadow/flow"
	"spanmeadow/plain"
	"spanmeadow/step"
)

// most is the greatest number that may be.
const most = api.MaxNumber

// far is how far from 0 the numbers are of which a step is told.
const far = 20 * api.One

// behind is what is laid behind a list's length, to tell whether it is read or written.
const behind = 4711

// terms of a polynomial: by, and how often each unknown.
type terms [][4]int

// form of these terms; of none nil stays nil, so that it is asked too.
func (l terms) form() []api.Term {
	if l == nil {
		return nil
	}
	f := make([]api.Term, len(l))
	for i, t := range l {
		f[i] = api.Term{By: t[0], Times: [3]int(t[1:])}
	}
	return f
}

// sides of a box, or pushes, by their ends.
type sides [][2]int

// box of these sides, likewise.
func (l sides) box() []api.Span {
	if l == nil {
		return nil
	}
	b := make([]api.Span, len(l))
	for i, ends := range l {
		b[i] = api.Span{Lo: ends[0], Hi: ends[1]}
	}
	return b
}

// boxes of these sides, one by one.
func boxes(l []sides) [][]api.Span {
	var made [][]api.Span
	for _, one := range l {
		made = append(made, one.box())
	}
	return made
}

// system of polynomials and pushes.
type system struct {
	next []terms
	push sides
}

func (s system) system() api.System {
	made := api.System{Push: s.push.box()}
	if s.next != nil {
		made.Next = make([][]api.Term, len(s.next))
	}
	for i, l := range s.next {
		made.Next[i] = l.form()
	}
	return made
}

// handed is a list for a call, with memory behind its length; unchanged tells whether all of it is as it was.
func handed[T comparable](l []T, after T) (list []T, unchanged func() bool) {
	if l == nil {
		return nil, func() bool { return true }
	}
	whole := append(slices.Clone(l), after, after)
	before := slices.Clone(whole)
	return whole[:len(l)], func() bool { return slices.Equal(whole, before) }
}

// handedLists is likewise a list of lists, with memory behind it and behind each of them.
func handedLists[T comparable](l [][]T, after T) (list [][]T, unchanged func() bool) {
	if l == nil {
		return nil, func() bool { return true }
	}
	whole, asks := make([][]T, 0, len(l)+2), []func() bool{}
	for _, one := range l {
		inner, same := handed(one, after)
		whole, asks = append(whole, inner), append(asks, same)
	}
	whole = append(whole, []T{after}, nil)
	before := slices.Clone(whole)
	return whole[:len(l)], func() bool {
		return slices.EqualFunc(whole, before, sameMemory) &&
			!slices.ContainsFunc(asks, func(same func() bool) bool { return !same() })
	}
}

// sameMemory tells whether two lists are one.
func sameMemory[T any](a, b []T) bool {
	return len(a) == len(b) && cap(a) == cap(b) && (cap(a) == 0 || &a[:1][0] == &b[:1][0])
}

func handedBox(b []api.Span) ([]api.Span, func() bool) {
	return handed(b, api.Span{Lo: behind, Hi: -behind})
}

// handedSystem is a system for a call, with memory behind each of its lists.
func handedSystem(s api.System) (api.System, func() bool) {
	next, nextSame := handedLists(s.Next, api.Term{By: math.MinInt, Times: [3]int{behind, -behind, behind}})
	push, pushSame := handedBox(s.Push)
	return api.System{Next: next, Push: push}, func() bool { return nextSame() && pushSame() }
}

// spoil writes over all of a list's memory.
func spoil[T any](l []T, by T) {
	all := l[:cap(l)]
	for i := range all {
		all[i] = by
	}
}

// spoilLists writes over all memory of some lists, by another thing for each, then over the list of them; it tells whether no two of them share any.
func spoilLists[T comparable](l [][]T, by func(i int) T) bool {
	for i, one := range l {
		spoil(one, by(i))
	}
	apart := true
	for i, one := range l {
		apart = apart && !slices.ContainsFunc(one[:cap(one)], func(is T) bool { return is != by(i) })
	}
	spoil(l, nil)
	return apart
}

func sameLists[T comparable](a, b [][]T) bool { return slices.EqualFunc(a, b, slices.Equal[[]T]) }

func checkRun(t *testing.T, s api.System, b []api.Span, steps int, want [][]api.Span, told api.Errno) {
	t.Helper()
	list, listSame := handedSystem(s)
	over, overSame := handedBox(b)
	got, err := flow.Run(list, over, steps)
	if !sameLists(got, want) || plain.Told(err) != told {
		t.Errorf("Run(%v, %v, %d) = %v, %v; want %v, %v", s, b, steps, got, err, want, told)
	}
	if !listSame() || !overSame() {
		t.Errorf("Run(%v, %v, %d) changed what it was handed", s, b, steps)
	}
	if !spoilLists(got, func(i int) api.Span { return api.Span{Lo: -behind, Hi: i} }) {
		t.Errorf("Run(%v, %v, %d) told lists that share memory", s, b, steps)
	}
	if !listSame() || !overSame() {
		t.Errorf("Run(%v, %v, %d) told what shares memory with what it was handed", s, b, steps)
	}
}

func checkPath(t *testing.T, s api.System, x []int, push, want [][]int, told api.Errno) {
	t.Helper()
	list, listSame := handedSystem(s)
	at, atSame := handed(x, math.MaxInt)
	by, bySame := handedLists(push, math.MinInt)
	got, err := flow.Path(list, at, by)
	if !sameLists(got, want) || plain.Told(err) != told {
		t.Errorf("Path(%v, %v, %v) = %v, %v; want %v, %v", s, x, push, got, err, want, told)
	}
	if !listSame() || !atSame() || !bySame() {
		t.Errorf("Path(%v, %v, %v) changed what it was handed", s, x, push)
	}
	if !spoilLists(got, func(i int) int { return behind + i }) {
		t.Errorf("Path(%v, %v, %v) told lists that share memory", s, x, push)
	}
	if !listSame() || !atSame() || !bySame() {
		t.Errorf("Path(%v, %v, %v) told what shares memory with what it was handed", s, x, push)
	}
}

func checkWide(t *testing.T, s api.System, b []api.Span, steps int, want []int, told api.Errno) {
	t.Helper()
	list, listSame := handedSystem(s)
	over, overSame := handedBox(b)
	got, err := flow.Wide(list, over, steps)
	if !slices.Equal(got, want) || plain.Told(err) != told {
		t.Errorf("Wide(%v, %v, %d) = %v, %v; want %v, %v", s, b, steps, got, err, want, told)
	}
	if !listSame() || !overSame() {
		t.Errorf("Wide(%v, %v, %d) changed what it was handed", s, b, steps)
	}
}

// checkNoBoxes sees that Run and Wide tell what is wrong, and nothing else.
func checkNoBoxes(t *testing.T, s api.System, b []api.Span, steps int, told api.Errno) {
	t.Helper()
	checkRun(t, s, b, steps, nil, told)
	checkWide(t, s, b, steps, nil, told)
}

// The polynomials and systems that several tests take.
var (
	ofX = terms{{1000, 1, 0, 0}}
	ofY = terms{{1000, 0, 1, 0}}
	ofZ = terms{{1000, 0, 0, 1}}

	none    = system{[]terms{nil}, sides{{-30, 10}}}
	half    = system{[]terms{{{500, 1, 0, 0}}}, sides{{-10, 20}}}
	back    = system{[]terms{{{-500, 1, 0, 0}}}, sides{{3, 3}}}
	third   = system{[]terms{{{333, 1, 0, 0}}}, sides{{0, 0}}}
	little  = system{[]terms{{{-1, 1, 0, 0}}}, sides{{-7, 7}}}
	square  = system{[]terms{{{1000, 2, 0, 0}, {-750, 0, 0, 0}}}, sides{{-1, 1}}}
	several = system{[]terms{{{371, 3, 0, 0}, {-437, 2, 0, 0}, {-500, 0, 0, 0}}}, sides{{18, 26}}}
	turn    = system{[]terms{{{900, 1, 0, 0}, {200, 0, 1, 0}}, {{-200, 1, 0, 0}, {900, 0, 1, 0}}}, sides{{-5, 5}, {10, 10}}}
	swap    = system{[]terms{ofY, ofX}, sides{{1, 1}, {20, 20}}}
	mixed   = system{[]terms{{}, {{1000, 1, 1, 0}, {7, 0, 0, 0}}}, sides{{-2, 3}, {0, 1}}}
	cycle   = system{[]terms{ofY, ofZ, {{1000, 1, 1, 1}}}, sides{{-1, 1}, {0, 0}, {2, 3}}}
	round   = system{[]terms{ofZ, ofX, ofY}, sides{{1, 1}, {20, 20}, {300, 300}}}
	three   = system{[]terms{nil, {{1000, 1, 0, 1}}, {{7, 0, 0, 0}, {250, 0, 1, 0}, {-125, 2, 0, 0}}}, sides{{5, 6}, {-1, 0}, {0, 1}}}
	spread  = system{[]terms{{{1200, 1, 0, 0}}, {{700, 0, 1, 0}}, ofZ}, sides{{0, 0}, {0, 0}, {-40, 40}}}
	double  = system{[]terms{{{2000, 1, 0, 0}}}, sides{{0, 0}}}
)

// goodSystems have nothing wrong with them.
var goodSystems = []system{none, half, back, third, little, square, several, turn, swap, mixed, cycle, round, three, spread, double}

// ran is a system, the boxes behind no step, one, two and so on, and how wide each is.
type ran struct {
	s    system
	all  []sides
	wide []int
}

// runs were reckoned apart, in exact numbers.
var runs = []ran{
	// Of one unknown: of no Term, of one, of several; boxes below 0, above it, across it, and of one number.
	{none, []sides{{{5, 7}}, {{-30, 10}}, {{-30, 10}}}, []int{2, 40, 40}},
	{half, []sides{{{-3000, -1000}}, {{-1510, -480}}, {{-765, -220}}, {{-393, -90}}}, []int{2000, 1030, 545, 303}},
	{half, []sides{{{1000, 3000}}, {{490, 1520}}, {{235, 780}}, {{107, 410}}}, []int{2000, 1030, 545, 303}},
	{half, []sides{{{1000, 1000}}, {{490, 520}}, {{235, 280}}, {{107, 160}}}, []int{0, 30, 45, 53}},
	{back, []sides{{{-1000, 2000}}, {{-997, 503}}, {{-249, 502}}, {{-248, 128}}, {{-61, 127}}}, []int{3000, 1500, 751, 376, 188}},
	{square, []sides{{{-1000, 500}}, {{-751, 251}}, {{-751, -184}}, {{-718, -184}}}, []int{1500, 1002, 567, 534}},
	{several, []sides{{{-796, 236}}, {{-948, -468}}, {{-1192, -606}}, {{-1732, -716}}}, []int{1032, 480, 586, 1016}},
	// Rounded outward at each step.
	{third, []sides{{{1000, 1000}}, {{333, 333}}, {{110, 111}}, {{36, 37}}, {{11, 13}}}, []int{0, 0, 1, 1, 2}},
	{third, []sides{{{-1000, -1000}}, {{-333, -333}}, {{-111, -110}}, {{-37, -36}}, {{-13, -11}}}, []int{0, 0, 1, 1, 2}},
	{little, []sides{{{1, 1}}, {{-8, 7}}, {{-8, 8}}, {{-8, 8}}}, []int{0, 15, 16, 16}},
	// Of two, which go into each other.
	{turn, []sides{{{1000, 2000}, {-1000, 1000}}, {{695, 2005}, {-1290, 710}}, {{362, 1952}, {-1552, 510}}, {{9, 1864}, {-1778, 397}}}, []int{2000, 2000, 2062, 2175}},
	{turn, []sides{{{1000, 1000}, {-1000, -1000}}, {{695, 705}, {-1090, -1090}}, {{402, 422}, {-1112, -1110}}}, []int{0, 10, 20}},
	{swap, []sides{{{1, 2}, {-40, -30}}, {{-39, -29}, {21, 22}}, {{22, 23}, {-19, -9}}, {{-18, -8}, {42, 43}}}, []int{10, 10, 10, 10}},
	{mixed, []sides{{{-1000, 2000}, {3000, 3001}}, {{-2, 3}, {-2994, 6010}}, {{-2, 3}, {-6, 27}}, {{-2, 3}, {6, 9}}}, []int{3000, 9004, 33, 5}},
	// Of three: the widest side is the first, the one in the middle, the last, and another one behind each step.
	{cycle, []sides{{{1000, 2000}, {-3000, -1000}, {0, 500}}, {{-3001, -999}, {0, 500}, {-2998, 3}}, {{-1, 501}, {-2998, 3}, {-3, 4503}}, {{-2999, 4}, {-3, 4503}, {-6762, 17}}}, []int{2000, 3001, 4506, 6779}},
	{round, []sides{{{1, 2}, {-40, -30}, {-500, 600}}, {{-499, 601}, {21, 22}, {260, 270}}, {{261, 271}, {-479, 621}, {321, 322}}, {{322, 323}, {281, 291}, {-179, 921}}, {{-178, 922}, {342, 343}, {581, 591}}}, []int{1100, 1100, 1100, 1100, 1100}},
	{three, []sides{{{-1000, 2000}, {9, 9}, {3000, 4000}}, {{5, 6}, {-4001, 8000}, {-491, 11}}, {{5, 6}, {-4, 1}, {-995, 2008}}, {{5, 6}, {-7, 13}, {5, 9}}}, []int{3000, 12001, 3003, 20}},
	{spread, []sides{{{-300, 300}, {-350, 350}, {0, 590}}, {{-360, 360}, {-245, 245}, {-40, 630}}, {{-432, 432}, {-172, 172}, {-80, 670}}, {{-519, 519}, {-121, 121}, {-120, 710}}, {{-623, 623}, {-85, 85}, {-160, 750}}}, []int{700, 720, 864, 1038, 1246}},
	// As many steps as may be.
	{half, []sides{{{-1000, 2000}}, {{-510, 1020}}, {{-265, 530}}, {{-143, 285}}, {{-82, 163}}, {{-51, 102}}, {{-36, 71}}, {{-28, 56}}, {{-24, 48}}, {{-22, 44}}, {{-21, 42}}, {{-21, 41}}, {{-21, 41}}, {{-21, 41}}, {{-21, 41}}, {{-21, 41}}, {{-21, 41}}, {{-21, 41}}, {{-21, 41}}, {{-21, 41}}, {{-21, 41}}},
		[]int{3000, 1530, 795, 428, 245, 153, 107, 84, 72, 66, 63, 62, 62, 62, 62, 62, 62, 62, 62, 62, 62}},
	{turn, []sides{{{1000, 2000}, {-1000, 1000}}, {{695, 2005}, {-1290, 710}}, {{362, 1952}, {-1552, 510}}, {{9, 1864}, {-1778, 397}}, {{-353, 1763}, {-1964, 367}}, {{-716, 1666}, {-2111, 412}}, {{-1073, 1588}, {-2224, 525}}, {{-1416, 1540}, {-2310, 698}}, {{-1742, 1531}, {-2377, 923}}, {{-2049, 1568}, {-2437, 1190}}, {{-2338, 1655}, {-2498, 1491}}, {{-2610, 1794}, {-2570, 1820}}, {{-2868, 1984}, {-2662, 2170}}, {{-3120, 2225}, {-2783, 2537}}, {{-3370, 2516}, {-2940, 2918}}, {{-3626, 2854}, {-3140, 3311}}, {{-3897, 3237}, {-3387, 3716}}, {{-4191, 3663}, {-3687, 4135}}, {{-4515, 4129}, {-4042, 4571}}, {{-4878, 4637}, {-4454, 5027}}, {{-5287, 5185}, {-4927, 5511}}},
		[]int{2000, 2000, 2062, 2175, 2331, 2523, 2749, 3008, 3300, 3627, 3993, 4404, 4852, 5345, 5886, 6480, 7134, 7854, 8644, 9515, 10472}},
}

// TestRun asks of each of these, and of all fewer steps: they tell the same as far as they go.
func TestRun(t *testing.T) {
	for _, r := range runs {
		for steps := range r.all {
			checkRun(t, r.s.system(), r.all[0].box(), steps, boxes(r.all[:steps+1]), api.OK)
		}
	}
}

// TestWide likewise.
func TestWide(t *testing.T) {
	for _, r := range runs {
		for steps := range r.all {
			checkWide(t, r.s.system(), r.all[0].box(), steps, r.wide[:steps+1], api.OK)
		}
	}
}

// TestWideOfNoStep asks of boxes as they are: with the widest side first, in the middle, and last, with several as wide, and with the greatest ones.
func TestWideOfNoStep(t *testing.T) {
	for _, c := range []struct {
		b    sides
		want int
	}{
		{sides{{0, 0}}, 0},
		{sides{{-most, -most}}, 0},
		{sides{{-8, -5}}, 3},
		{sides{{-most, most}}, 2 * most},
		{sides{{7, 7}, {-9, -9}}, 0},
		{sides{{0, 9}, {0, 5}}, 9},
		{sides{{0, 5}, {0, 9}}, 9},
		{sides{{-5, 4}, {100, 109}}, 9},
		{sides{{most - 1, most}, {-most, most}}, 2 * most},
		{sides{{0, 9}, {0, 5}, {0, 7}}, 9},
		{sides{{0, 5}, {-9, 0}, {0, 7}}, 9},
		{sides{{0, 5}, {0, 7}, {-20, -11}}, 9},
		{sides{{3, 3}, {3, 3}, {3, 4}}, 1},
		{sides{{most, most}, {0, 1}, {-most, -most}}, 1},
		{sides{{-most, most}, {-most, most}, {-most, most}}, 2 * most},
	} {
		for _, g := range goodSystems {
			if len(g.next) == len(c.b) {
				checkWide(t, g.system(), c.b.box(), 0, []int{c.want}, api.OK)
			}
		}
	}
}

// full is a system, a box, and the last step of which no ErrFull is told, with the box behind it.
type full struct {
	s     system
	b     sides
	steps int
	last  sides
}

// fulls have the first step that is beyond what may be as the first one, as later ones, and as the last one that may be asked for.
var fulls = []full{
	// By the Push, at either end.
	{system{[]terms{ofX}, sides{{0, 1}}}, sides{{most, most}}, 0, sides{{most, most}}},
	{system{[]terms{ofX}, sides{{-1, 0}}}, sides{{-most, 0}}, 0, sides{{-most, 0}}},
	{system{[]terms{ofX}, sides{{0, 1}}}, sides{{0, most - 1}}, 1, sides{{0, most}}},
	{system{[]terms{ofX}, sides{{-1, 0}}}, sides{{2 - most, 0}}, 2, sides{{-most, 0}}},
	{system{[]terms{ofX}, sides{{0, 50000000}}}, sides{{1, 1}}, 19, sides{{1, 950000001}}},
	{system{[]terms{ofX}, sides{{-50000001, 0}}}, sides{{0, 0}}, 19, sides{{-950000019, 0}}},
	// By the Range.
	{double, sides{{-most / 2, most/2 + 1}}, 0, sides{{-most / 2, most/2 + 1}}},
	{double, sides{{-most / 2, most / 2}}, 1, sides{{-most, most}}},
	{double, sides{{0, 954}}, 19, sides{{0, 500170752}}},
	{double, sides{{-954, 0}}, 19, sides{{-500170752, 0}}},
	// By a power that adds nothing.
	{system{[]terms{{{0, 2, 0, 0}, {2000, 1, 0, 0}}}, sides{{0, 0}}}, sides{{0, 500000}}, 2, sides{{0, 2000000}}},
	// Of one unknown alone, wherever it stands.
	{system{[]terms{{{2000, 1, 0, 0}}, nil}, sides{{0, 0}, {0, 0}}}, sides{{0, 250000000}, {1, 2}}, 2, sides{{0, most}, {0, 0}}},
	{system{[]terms{nil, {{2000, 0, 1, 0}}, nil}, sides{{0, 0}, {0, 0}, {3, 4}}}, sides{{0, 0}, {-250000000, 0}, {5, 5}}, 2, sides{{0, 0}, {-most, 0}, {3, 4}}},
	{system{[]terms{nil, nil, {{2000, 0, 0, 1}}}, sides{{0, 0}, {0, 0}, {0, 0}}}, sides{{0, 0}, {0, 0}, {most, most}}, 0, sides{{0, 0}, {0, 0}, {most, most}}},
}

// TestFull sees that ErrFull is told from the step on that is beyond what may be, and not of fewer steps.
func TestFull(t *testing.T) {
	for _, f := range fulls {
		s, b := f.s.system(), f.b.box()
		for steps := range f.steps + 1 {
			all, err := flow.Run(s, b, steps)
			if err != nil || len(all) != steps+1 {
				t.Fatalf("Run(%v, %v, %d) = %v, %v", s, b, steps, all, err)
			}
			if steps == f.steps && !slices.Equal(all[steps], f.last.box()) {
				t.Errorf("Run(%v, %v, %d) = %v; want %v at last", s, b, steps, all, f.last)
			}
			if wide, err := flow.Wide(s, b, steps); err != nil || len(wide) != steps+1 {
				t.Errorf("Wide(%v, %v, %d) = %v, %v", s, b, steps, wide, err)
			}
		}
		for steps := f.steps + 1; steps <= 20; steps++ {
			checkNoBoxes(t, s, b, steps, api.ErrFull)
		}
	}
}

// TestNotFull asks just ahead of where the last step would be beyond what may be.
func TestNotFull(t *testing.T) {
	for _, f := range []full{
		{double, sides{{0, 953}}, 20, sides{{0, 999292928}}},
		{double, sides{{-953, 0}}, 20, sides{{-999292928, 0}}},
		{system{[]terms{ofX}, sides{{0, 50000000}}}, sides{{0, 0}}, 20, sides{{0, most}}},
		{system{[]terms{ofX}, sides{{-50000000, 0}}}, sides{{0, 0}}, 20, sides{{-most, 0}}},
		{system{[]terms{nil}, sides{{-most, most}}}, sides{{0, 0}}, 20, sides{{-most, most}}},
	} {
		all, err := flow.Run(f.s.system(), f.b.box(), f.steps)
		if err != nil || !slices.Equal(all[f.steps], f.last.box()) {
			t.Errorf("Run(%v, %v, %d) = %v, %v; want %v at last", f.s, f.b, f.steps, all, err, f.last)
		}
	}
}

// wrongSystems are systems with a fault, and which; where several are wrong with one, what is told first.
var wrongSystems = []struct {
	s    system
	told api.Errno
}{
	// No polynomial, and too many, whatever there is of pushes.
	{system{}, api.ErrNone},
	{system{[]terms{}, sides{}}, api.ErrNone},
	{system{nil, sides{{1, 0}, {0, most + 1}}}, api.ErrNone},
	{system{make([]terms, 4), make(sides, 4)}, api.ErrFull},
	{system{make([]terms, 1000), nil}, api.ErrFull},
	{system{[]terms{{{most + 1, 0, 0, 0}}, nil, nil, ofY}, sides{{1, 0}}}, api.ErrFull},
	// Not as many pushes, whatever else is wrong.
	{system{[]terms{ofX}, nil}, api.ErrShape},
	{system{[]terms{ofX}, sides{{0, 0}, {0, 0}}}, api.ErrShape},
	{system{[]terms{ofX, ofY}, sides{{0, most + 1}}}, api.ErrShape},
	{system{[]terms{ofX, make(terms, 7), ofZ}, sides{{0, 0}, {0, 0}}}, api.ErrShape},
	{system{[]terms{ofX, ofY, ofZ}, make(sides, 4)}, api.ErrShape},
	// A polynomial, by each of its faults, wherever it stands.
	{system{[]terms{make(terms, 7)}, sides{{0, 0}}}, api.ErrFull},
	{system{[]terms{nil, nil, make(terms, 1000)}, sides{{0, 0}, {0, 0}, {0, 0}}}, api.ErrFull},
	{system{[]terms{{{most + 1, 0, 0, 0}}}, sides{{0, 0}}}, api.ErrRange},
	{system{[]terms{nil, {{1, 0, 0, 0}, {math.MinInt, 0, 0, 0}}}, sides{{0, 0}, {0, 0}}}, api.ErrRange},
	{system{[]terms{nil, nil, {{math.MaxInt, 0, 0, 0}}}, sides{{0, 0}, {0, 0}, {0, 0}}}, api.ErrRange},
	{system{[]terms{{{1, -1, 0, 0}}}, sides{{0, 0}}}, api.ErrRange},
	{system{[]terms{{{1, 4, 0, 0}}}, sides{{0, 0}}}, api.ErrRange},
	{system{[]terms{nil, {{1, 2, 2, 0}}}, sides{{0, 0}, {0, 0}}}, api.ErrRange},
	{system{[]terms{{{1, math.MaxInt, math.MaxInt, 2}}, nil, nil}, sides{{0, 0}, {0, 0}, {0, 0}}}, api.ErrRange},
	{system{[]terms{nil, nil, {{1, 0, math.MinInt, 0}}}, sides{{0, 0}, {0, 0}, {0, 0}}}, api.ErrRange},
	{system{[]terms{ofY}, sides{{0, 0}}}, api.ErrShape},
	{system{[]terms{ofX, ofZ}, sides{{0, 0}, {0, 0}}}, api.ErrShape},
	// Several polynomials: the first one's is told.
	{system{[]terms{ofZ, make(terms, 7)}, sides{{0, 0}, {0, 0}}}, api.ErrShape},
	{system{[]terms{make(terms, 7), {{most + 1, 0, 0, 0}}}, sides{{0, 0}, {0, 0}}}, api.ErrFull},
	{system{[]terms{{{1, 4, 0, 0}}, make(terms, 7)}, sides{{0, 0}, {0, 0}}}, api.ErrRange},
	// A Push, by each of its faults, wherever it stands, and behind a polynomial's.
	{system{[]terms{ofX}, sides{{1, 0}}}, api.ErrShape},
	{system{[]terms{ofX}, sides{{0, most + 1}}}, api.ErrRange},
	{system{[]terms{ofX}, sides{{math.MaxInt, math.MinInt}}}, api.ErrRange},
	{system{[]terms{ofX, ofY}, sides{{0, 0}, {0, -1}}}, api.ErrShape},
	{system{[]terms{ofX, ofY}, sides{{1, 0}, {math.MinInt, 0}}}, api.ErrShape},
	{system{[]terms{ofX, ofY, ofZ}, sides{{0, 0}, {math.MinInt, 0}, {1, 0}}}, api.ErrRange},
	{system{[]terms{ofX, make(terms, 7)}, sides{{1, 0}, {0, 0}}}, api.ErrFull},
	{system{[]terms{ofY}, sides{{0, most + 1}}}, api.ErrShape},
}

// wrongBoxes are boxes with a fault, and which.
var wrongBoxes = []struct {
	b    sides
	told api.Errno
}{
	{nil, api.ErrNone},
	{sides{}, api.ErrNone},
	{sides{{0, 1}, {0, 1}}[:0], api.ErrNone},
	{sides{{0, 1}, {0, 1}, {0, 1}, {0, 1}}, api.ErrFull},
	{sides{{1, 0}, {0, most + 1}, {0, 1}, {0, 1}}, api.ErrFull},
	{make(sides, 1000), api.ErrFull},
	{sides{{1, 0}}, api.ErrShape},
	{sides{{0, most + 1}}, api.ErrRange},
	{sides{{math.MinInt, math.MaxInt}}, api.ErrRange},
	{sides{{math.MaxInt, math.MinInt}}, api.ErrRange},
	{sides{{0, 1}, {1, 0}}, api.ErrShape},
	{sides{{-most - 1, 0}, {1, 0}}, api.ErrRange},
	{sides{{0, 1}, {1, 0}, {0, most + 1}}, api.ErrShape},
	{sides{{0, 1}, {0, 1}, {math.MinInt, 0}}, api.ErrRange},
}

// goodBoxes have nothing wrong with them, of each number of sides; of the last ones most steps are beyond what may be.
var goodBoxes = []sides{
	{{-1000, 2000}}, {{-1000, 2000}, {5, 5}}, {{-1000, 2000}, {5, 5}, {-9, -7}},
	{{most, most}}, {{-most, most}, {most, most}}, {{-most, most}, {most, most}, {-most, -most}},
}

// goodSteps and wrongSteps are how many steps may be, and may not be.
var (
	goodSteps  = []int{0, 1, 2, 19, 20}
	wrongSteps = []int{-1, -2, -20, 21, 22, 1000, most, math.MinInt, math.MinInt + 1, math.MaxInt}
)

// TestSteps sees that wrong steps are told, whatever the system and the box, and whether they go together.
func TestSteps(t *testing.T) {
	for _, steps := range wrongSteps {
		for _, b := range goodBoxes {
			for _, g := range goodSystems {
				checkNoBoxes(t, g.system(), b.box(), steps, api.ErrRange)
			}
			for _, w := range wrongSystems {
				checkNoBoxes(t, w.s.system(), b.box(), steps, api.ErrRange)
			}
		}
		for _, v := range wrongBoxes {
			checkNoBoxes(t, turn.system(), v.b.box(), steps, api.ErrRange)
			checkNoBoxes(t, api.System{}, v.b.box(), steps, api.ErrRange)
		}
	}
}

// TestRunWrong sees, of each number of steps and of none, that what is wrong with the system is told, whatever the box, then what is wrong with the box.
func TestRunWrong(t *testing.T) {
	for _, steps := range goodSteps {
		for _, w := range wrongSystems {
			for _, g := range goodBoxes {
				checkNoBoxes(t, w.s.system(), g.box(), steps, w.told)
			}
			for _, v := range wrongBoxes {
				checkNoBoxes(t, w.s.system(), v.b.box(), steps, w.told)
			}
		}
		for _, g := range goodSystems {
			for _, w := range wrongBoxes {
				checkNoBoxes(t, g.system(), w.b.box(), steps, w.told)
			}
		}
	}
}

// TestRunShape asks, of each number of steps and of none, with sides too few and too many: also where it would be beyond what may be.
func TestRunShape(t *testing.T) {
	for _, steps := range goodSteps {
		for _, g := range goodSystems {
			for _, b := range goodBoxes {
				if len(b) != len(g.next) {
					checkNoBoxes(t, g.system(), b.box(), steps, api.ErrShape)
				}
			}
		}
	}
}

// TestRunNoStep sees that of no step the box is told as it is, even where one step would be beyond what may be.
func TestRunNoStep(t *testing.T) {
	for _, g := range goodSystems {
		for _, b := range goodBoxes {
			if len(b) == len(g.next) {
				checkRun(t, g.system(), b.box(), 0, boxes([]sides{b}), api.OK)
			}
		}
	}
	high := system{[]terms{{{most, 0, 0, 0}, {most, 0, 0, 0}}}, sides{{most, most}}}
	checkRun(t, high.system(), sides{{-5, 5}}.box(), 0, boxes([]sides{{{-5, 5}}}), api.OK)
	checkWide(t, high.system(), sides{{-5, 5}}.box(), 0, []int{10}, api.OK)
	checkNoBoxes(t, high.system(), sides{{-5, 5}}.box(), 1, api.ErrFull)
}

// pathed is a system, pushes, and the points behind no step, one, two and so on.
type pathed struct {
	s    system
	push [][]int
	all  [][]int
}

// paths were reckoned apart, in exact fractions.
var paths = []pathed{
	// Of one unknown: of no Term, of one, of several; pushes at the ends of their spans, and inside.
	{none, [][]int{{-30}, {0}, {10}}, [][]int{{5}, {-30}, {0}, {10}}},
	{half, [][]int{{-10}, {20}, {5}, {0}}, [][]int{{-3000}, {-1510}, {-735}, {-363}, {-182}}},
	{half, [][]int{{-10}, {20}, {5}, {0}}, [][]int{{1000}, {490}, {265}, {137}, {68}}},
	{back, [][]int{{3}, {3}, {3}, {3}}, [][]int{{2000}, {-997}, {501}, {-248}, {127}}},
	{square, [][]int{{-1}, {0}, {1}, {1}}, [][]int{{-1000}, {249}, {-688}, {-276}, {-673}}},
	{several, [][]int{{18}, {26}, {20}}, [][]int{{236}, {-502}, {-632}, {-749}}},
	// Rounded down at each step, on either side of 0.
	{third, [][]int{{0}, {0}, {0}, {0}, {0}}, [][]int{{1000}, {333}, {110}, {36}, {11}, {3}}},
	{third, [][]int{{0}, {0}, {0}, {0}, {0}, {0}}, [][]int{{-1000}, {-333}, {-111}, {-37}, {-13}, {-5}, {-2}}},
	{little, [][]int{{0}, {7}, {-7}}, [][]int{{1}, {-1}, {7}, {-8}}},
	// Of two, and of three, which go into each other.
	{turn, [][]int{{0, 10}, {5, 10}, {-5, 10}}, [][]int{{1500, -500}, {1250, -740}, {982, -906}, {697, -1002}}},
	{turn, [][]int{{-5, 10}, {-5, 10}, {2, 10}}, [][]int{{-2000, 1000}, {-1605, 1310}, {-1188, 1510}, {-766, 1606}}},
	{swap, [][]int{{1, 20}, {1, 20}, {1, 20}}, [][]int{{1, -40}, {-39, 21}, {22, -19}, {-18, 42}}},
	{mixed, [][]int{{-2, 0}, {3, 1}, {0, 1}}, [][]int{{-1000, 3000}, {-2, -2993}, {3, 13}, {0, 8}}},
	{cycle, [][]int{{1, 0, 2}, {-1, 0, 3}, {0, 0, 2}}, [][]int{{1500, -2000, 250}, {-1999, 250, -748}, {249, -748, 376}, {-748, 376, -69}}},
	{round, [][]int{{1, 20, 300}, {1, 20, 300}, {1, 20, 300}, {1, 20, 300}}, [][]int{{2, -30, 500}, {501, 22, 270}, {271, 521, 322}, {323, 291, 821}, {822, 343, 591}}},
	{three, [][]int{{6, -1, 1}, {5, 0, 0}, {5, -1, 0}}, [][]int{{-1000, 9, 3000}, {6, -3001, -115}, {5, -1, -744}, {5, -5, 6}}},
	{spread, [][]int{{0, 0, -40}, {0, 0, 40}, {0, 0, 0}}, [][]int{{300, -350, 1}, {360, -245, -39}, {432, -172, 1}, {518, -121, 1}}},
	// As many steps as may be.
	{half, [][]int{{-10}, {20}, {-10}, {20}, {-10}, {20}, {-10}, {20}, {-10}, {20}, {-10}, {20}, {-10}, {20}, {-10}, {20}, {-10}, {20}, {-10}, {20}},
		[][]int{{2000}, {990}, {515}, {247}, {143}, {61}, {50}, {15}, {27}, {3}, {21}, {0}, {20}, {0}, {20}, {0}, {20}, {0}, {20}, {0}, {20}}},
}

// TestPath asks of each of these, and of all fewer steps: they tell the same as far as they go.
func TestPath(t *testing.T) {
	for _, p := range paths {
		for steps := range p.all {
			checkPath(t, p.s.system(), p.all[0], p.push[:steps], p.all[:steps+1], api.OK)
		}
	}
}

// anyInts are numbers near and far, also such as are none that may be.
var anyInts = []int{0, 1, -1, far, far + 1, -far - 1, most, -most, most + 1, -most - 1, math.MaxInt, math.MinInt}

// TestPathNoStep sees that of no push the numbers are told as they are, whatever they are, and of one what is wrong with them.
func TestPathNoStep(t *testing.T) {
	for _, no := range [][][]int{nil, {}, manyOf(3, []int{math.MaxInt})[:0]} {
		for _, n := range anyInts {
			checkPath(t, double.system(), []int{n}, no, [][]int{{n}}, api.OK)
			checkPath(t, turn.system(), []int{n, 5}, no, [][]int{{n, 5}}, api.OK)
			checkPath(t, turn.system(), []int{5, n}, no, [][]int{{5, n}}, api.OK)
			checkPath(t, cycle.system(), []int{n, 7, n}, no, [][]int{{n, 7, n}}, api.OK)
		}
		// Nor is a By told of which no step can be told.
		checkPath(t, system{[]terms{{{most, 3, 0, 0}}}, sides{{0, 0}}}.system(), []int{far}, no, [][]int{{far}}, api.OK)
	}
	for _, n := range anyInts {
		if n < -far || n > far {
			checkPath(t, double.system(), []int{n}, [][]int{{0}}, nil, api.ErrRange)
			checkPath(t, turn.system(), []int{5, n}, [][]int{{0, 10}}, nil, api.ErrRange)
			checkPath(t, cycle.system(), []int{n, 7, n}, [][]int{{0, 0, 2}}, nil, api.ErrRange)
		}
	}
}

// numbersOf are lists of each length, near and far.
var numbersOf = [][]int{
	nil, {}, {0}, {0, 10}, {0, 0, 2}, {0, 0, 0, 0}, make([]int, 1000),
	{far + 1}, {math.MinInt, math.MaxInt}, {most + 1, -most - 1, far + 1}, {math.MaxInt, 0, 0, math.MinInt},
}

// manyOf is so many lists of pushes, all alike.
func manyOf(steps int, push []int) [][]int { return slices.Repeat([][]int{push}, steps) }

// TestPathMany sees that too many lists of pushes are told, whatever they are, and whatever the system and the numbers.
func TestPathMany(t *testing.T) {
	for _, steps := range []int{21, 22, 1000} {
		for _, x := range numbersOf {
			for _, push := range [][]int{nil, {0}, {0, 10}, {math.MinInt, math.MaxInt}} {
				checkPath(t, turn.system(), x, manyOf(steps, push), nil, api.ErrFull)
			}
			for _, w := range wrongSystems {
				checkPath(t, w.s.system(), x, manyOf(steps, x), nil, api.ErrFull)
			}
		}
		checkPath(t, half.system(), []int{2000}, manyOf(steps, []int{20}), nil, api.ErrFull)
	}
	// As many as may be: what is wrong is told by the first step.
	checkPath(t, half.system(), []int{2000}, manyOf(20, []int{21}), nil, api.ErrRange)
	checkPath(t, half.system(), []int{2000}, manyOf(20, nil), nil, api.ErrShape)
	checkPath(t, half.system(), []int{}, manyOf(20, []int{20}), nil, api.ErrShape)
	checkPath(t, double.system(), []int{0}, manyOf(20, []int{0}), manyOf(21, []int{0}), api.OK)
}

// TestPathWrong sees, of steps and of none, that what is wrong with the system is told, whatever the numbers and the pushes.
func TestPathWrong(t *testing.T) {
	for _, w := range wrongSystems {
		for _, x := range numbersOf {
			checkPath(t, w.s.system(), x, nil, nil, w.told)
			checkPath(t, w.s.system(), x, [][]int{}, nil, w.told)
			for _, push := range numbersOf {
				checkPath(t, w.s.system(), x, manyOf(1, push), nil, w.told)
				checkPath(t, w.s.system(), x, manyOf(20, push), nil, w.told)
			}
		}
	}
}

// TestPathShape sees, of steps and of none, that too few or too many numbers are told ahead of what is wrong with them, or with pushes.
func TestPathShape(t *testing.T) {
	for _, g := range goodSystems {
		for _, x := range numbersOf {
			if len(x) == len(g.next) {
				continue
			}
			checkPath(t, g.system(), x, nil, nil, api.ErrShape)
			checkPath(t, g.system(), x, [][]int{}, nil, api.ErrShape)
			for _, push := range numbersOf {
				checkPath(t, g.system(), x, manyOf(1, push), nil, api.ErrShape)
				checkPath(t, g.system(), x, manyOf(20, push), nil, api.ErrShape)
			}
		}
	}
}

// TestPathPush puts a wrong list of pushes at each step of as many as may be: all of them behind it, and none ahead of it, are left out.
func TestPathPush(t *testing.T) {
	for _, c := range []struct {
		push []int
		told api.Errno
	}{
		{nil, api.ErrShape},
		{[]int{}, api.ErrShape},
		{[]int{0}, api.ErrShape},
		{[]int{math.MaxInt}, api.ErrShape},
		{[]int{0, 10, 0}, api.ErrShape},
		{[]int{6, 11, math.MinInt}, api.ErrShape},
		{make([]int, 1000), api.ErrShape},
		{[]int{-6, 10}, api.ErrRange},
		{[]int{6, 10}, api.ErrRange},
		{[]int{0, 9}, api.ErrRange},
		{[]int{0, 11}, api.ErrRange},
		{[]int{10, 0}, api.ErrRange},
		{[]int{math.MinInt, 10}, api.ErrRange},
		{[]int{0, math.MaxInt}, api.ErrRange},
	} {
		for at := range 20 {
			push := manyOf(20, []int{5, 10})
			push[at] = c.push
			checkPath(t, turn.system(), []int{100, -200}, push, nil, c.told)
			checkPath(t, turn.system(), []int{100, -200}, push[:at+1], nil, c.told)
			meant, told := meantPath(turn.system(), []int{100, -200}, push[:at])
			if told != api.OK {
				t.Fatalf("what is meant of %d pushes is %v", at, told)
			}
			checkPath(t, turn.system(), []int{100, -200}, push[:at], meant, api.OK)
		}
	}
}

// later is a system, numbers, pushes, and which step tells what.
type later struct {
	s    system
	x    []int
	push [][]int
	at   int
	told api.Errno
}

// checkLater sees that it is told of so many steps and of more, and nothing of fewer.
func checkLater(t *testing.T, l later) {
	t.Helper()
	for steps := range l.at {
		if all, err := flow.Path(l.s.system(), l.x, l.push[:steps]); err != nil || len(all) != steps+1 {
			t.Errorf("Path(%v, %v, %v) = %v, %v", l.s, l.x, l.push[:steps], all, err)
		}
	}
	for steps := l.at; steps <= len(l.push); steps++ {
		checkPath(t, l.s.system(), l.x, l.push[:steps], nil, l.told)
	}
}

// anyPush is by one number, with any push; grown brings a second one to what may be, and beyond, once the first one has grown.
var (
	anyPush = system{[]terms{ofX}, sides{{-most, most}}}
	grown   = system{[]terms{{{2000, 1, 0, 0}}, {{far, 3, 0, 0}, {far, 3, 0, 0}, {far, 3, 0, 0}, {far, 3, 0, 0}, {far, 3, 0, 0}, {far, 3, 0, 0}}}, sides{{-most, most}, {-most, most}}}
)

// TestPathLater asks where the first step tells something, where a later one does, and where several do: the first one's is told.
func TestPathLater(t *testing.T) {
	for _, l := range []later{
		// Numbers that go too far: a step is told of those that are not, so the last point may be further.
		{double, []int{far + 1}, [][]int{{0}, {0}}, 1, api.ErrRange},
		{double, []int{far}, [][]int{{0}, {0}, {0}}, 2, api.ErrRange},
		{double, []int{-far / 2}, [][]int{{0}, {0}, {0}, {0}}, 3, api.ErrRange},
		{double, []int{1}, manyOf(20, []int{0}), 16, api.ErrRange},
		{anyPush, []int{0}, [][]int{{far}, {1}, {0}}, 3, api.ErrRange},
		{anyPush, []int{0}, [][]int{{most}, {-most}, {0}}, 2, api.ErrRange},
		// A By that is too far, and a sum that is beyond what may be.
		{system{[]terms{{{far + 1, 0, 0, 0}}}, sides{{0, 0}}}, []int{0}, [][]int{{0}, {0}}, 1, api.ErrFull},
		{system{[]terms{nil, {{-most, 0, 3, 0}}}, sides{{0, 0}, {0, 0}}}, []int{0, 0}, [][]int{{0, 0}, {0, 0}}, 1, api.ErrFull},
		{anyPush, []int{1}, [][]int{{most}, {0}}, 1, api.ErrFull},
		{anyPush, []int{1}, [][]int{{0}, {most}, {0}}, 2, api.ErrFull},
		{anyPush, []int{-1}, [][]int{{-1}, {0}, {1 - most}}, 3, api.ErrFull},
		{anyPush, []int{1}, append(manyOf(19, []int{0}), []int{most}), 20, api.ErrFull},
		{grown, []int{far / 2, 0}, [][]int{{0, -120000000}, {0, 40000001}, {0, 0}}, 2, api.ErrFull},
		{grown, []int{far / 2, 0}, [][]int{{0, -120000000}, {0, 40000000}, {0, 0}}, 3, api.ErrRange},
		// An earlier step tells another error ahead of a list that is too short, or too long, or not in its span.
		{double, []int{far + 1}, [][]int{{0}, nil, {1}}, 1, api.ErrRange},
		{double, []int{far}, [][]int{{0}, {0}, {0, 0}}, 2, api.ErrRange},
		{anyPush, []int{1}, [][]int{{most}, nil, {most + 1}}, 1, api.ErrFull},
		{anyPush, []int{1}, [][]int{{0}, {most}, {0, 0}}, 2, api.ErrFull},
		{anyPush, []int{1}, [][]int{{0}, {most}, {math.MinInt}}, 2, api.ErrFull},
		{half, []int{1}, [][]int{{0}, {21}, {0, 0}}, 2, api.ErrRange},
		{half, []int{1}, [][]int{{0}, {0, 0}, {21}}, 2, api.ErrShape},
		{half, []int{1}, [][]int{{-11}, nil}, 1, api.ErrRange},
		{half, []int{1}, [][]int{nil, {-11}}, 1, api.ErrShape},
		// Of one step what is wrong with the list of its pushes is told ahead of the rest.
		{double, []int{far}, [][]int{{0}, nil, {0}}, 2, api.ErrShape},
		{anyPush, []int{0}, [][]int{{most}, {0, 0}}, 2, api.ErrShape},
		{system{[]terms{{{far + 1, 0, 0, 0}}}, sides{{0, 0}}}, []int{0}, [][]int{{0, 0}}, 1, api.ErrShape},
		{system{[]terms{{{far + 1, 0, 0, 0}}}, sides{{0, 0}}}, []int{0}, [][]int{{1}}, 1, api.ErrRange},
	} {
		checkLater(t, l)
	}
	// Just ahead of what is told above.
	checkPath(t, double.system(), []int{far}, [][]int{{0}}, [][]int{{far}, {2 * far}}, api.OK)
	checkPath(t, anyPush.system(), []int{1}, [][]int{{0}, {most - 1}}, [][]int{{1}, {1}, {most}}, api.OK)
	checkPath(t, grown.system(), []int{far / 2, 0}, [][]int{{0, -120000000}, {-far, 40000000}}, [][]int{{far / 2, 0}, {far, 0}, {far, most}}, api.OK)
}

// meantRun is what the chapter says of Run, by a step as chapter 12's own tests hold it.
func meantRun(s api.System, b []api.Span, steps int) ([][]api.Span, api.Errno) {
	if steps < 0 || steps > 20 {
		return nil, api.ErrRange
	}
	if err := step.CheckOver(s, b); err != nil {
		return nil, plain.Told(err)
	}
	all := [][]api.Span{b}
	for len(all) <= steps {
		next, err := step.Of(s, all[len(all)-1])
		if err != nil {
			return nil, plain.Told(err)
		}
		all = append(all, next)
	}
	return all, api.OK
}

// meantPath is likewise what it says of Path.
func meantPath(s api.System, x []int, push [][]int) ([][]int, api.Errno) {
	if len(push) > 20 {
		return nil, api.ErrFull
	}
	if err := step.Check(s); err != nil {
		return nil, plain.Told(err)
	}
	if len(push) == 0 && len(x) != len(s.Next) {
		return nil, api.ErrShape
	}
	all := [][]int{x}
	for _, by := range push {
		next, err := step.Point(s, all[len(all)-1], by)
		if err != nil {
			return nil, plain.Told(err)
		}
		all = append(all, next)
	}
	return all, api.OK
}

// meantWide is how wide boxes are: no side of one is wider, and one is as wide.
func meantWide(all [][]api.Span) []int {
	var wide []int
	for _, b := range all {
		var each []int
		for _, side := range b {
			each = append(each, side.Hi-side.Lo)
		}
		wide = append(wide, slices.Max(each))
	}
	return wide
}

// checkMeantRun holds Run and Wide against what is meant.
func checkMeantRun(t *testing.T, s api.System, b []api.Span, steps int) {
	t.Helper()
	all, told := meantRun(s, b, steps)
	checkRun(t, s, b, steps, all, told)
	checkWide(t, s, b, steps, meantWide(all), told)
}

// checkMeantPath holds Path against what is meant.
func checkMeantPath(t *testing.T, s api.System, x []int, push [][]int) {
	t.Helper()
	all, told := meantPath(s, x, push)
	checkPath(t, s, x, push, all, told)
}

// lists gives all lists of up to some things out of all.
func lists[T any](all []T, upTo int) [][]T {
	made, last := [][]T{nil}, [][]T{nil}
	for range upTo {
		var next [][]T
		for _, l := range last {
			for _, one := range all {
				next = append(next, append(slices.Clone(l), one))
			}
		}
		made, last = append(made, next...), next
	}
	return made
}

// edgeForms are polynomials of up to three unknowns, near and far.
var edgeForms = []terms{
	nil, {{7, 0, 0, 0}}, ofX, {{-333, 0, 1, 0}}, {{-333, 1, 0, 1}, {1, 0, 2, 0}}, {{2000, 1, 0, 0}, {-far, 0, 0, 0}},
	{{far + 1, 0, 0, 0}}, {{most, 0, 1, 0}}, {{1, 0, 0, 0}, {1, 4, 0, 0}},
}

// edgeSystems gives all systems of up to three of these, each with other pushes.
func edgeSystems() []api.System {
	pushes := sides{{0, 0}, {-9, 4}, {-most, most}, {3, 3}, {most - 5, most}, {-most, -most + 5}, {2, 1}}
	var forms [][]api.Term
	for _, l := range edgeForms {
		forms = append(forms, l.form())
	}
	var all []api.System
	for i, next := range lists(forms, 3) {
		s := api.System{Next: next}
		for j := range next {
			// As all pushes with all polynomials would be many, others come each time; the last one is wrong, and comes seldom.
			at := (i*(j+1) + i/7 + j) % len(pushes)
			if at == len(pushes)-1 && i%3 > 0 {
				at = j
			}
			s.Push = append(s.Push, pushes[at:at+1].box()...)
		}
		all = append(all, s)
	}
	return all
}

// TestRunAllOfEdges goes over all such systems, over boxes whose sides are below 0, above it, across it, of one number, and wrong.
func TestRunAllOfEdges(t *testing.T) {
	over := lists(sides{{-3000, -1000}, {-5, 7}, {1733, 1733}, {0, most}, {1, 0}}.box(), 3)
	steps := []int{0, 1, 2, 3, 20, 0, 1, 2, 3, 20, math.MinInt, 21}
	for i, s := range edgeSystems() {
		for j, b := range over {
			// Most boxes have other sides than a system, and then all steps tell the same.
			if len(b) == len(s.Next) || (i+j)%5 == 0 {
				checkMeantRun(t, s, b, steps[(i+j)%len(steps)])
			}
		}
	}
}

// TestPathAllOfEdges goes over all such systems, at numbers near and far, with pushes at the ends of their spans, and seldom one beyond, or one too few.
func TestPathAllOfEdges(t *testing.T) {
	points := lists([]int{math.MinInt, -far, -1, 0, 1733, far + 1}, 3)
	for i, s := range edgeSystems() {
		for j, x := range points {
			if len(x) != len(s.Next) && (i+j)%5 > 0 {
				continue
			}
			push := make([][]int, (i+j)%4)
			for at := range push {
				push[at] = pushesFor(s, i+j+7*at)
			}
			checkMeantPath(t, s, x, push)
		}
	}
}

// pushesFor gives a push for each unknown of a system, most of them in their spans, by whatever pick picks.
func pushesFor(s api.System, pick int) []int {
	push := make([]int, max(0, len(s.Next)-pick%17/16))
	for k := range push {
		span := s.Push[k]
		push[k] = []int{span.Lo, span.Hi, span.Lo + (span.Hi-span.Lo)/2}[(pick+k)%3]
		if pick%13 == 12 {
			push[k]++
		}
	}
	return push
}

// TestAllOfFar goes over all numbers at which something turns, as steps, as By, as times, as ends, as numbers and as pushes.
func TestAllOfFar(t *testing.T) {
	edges := []int{math.MinInt, -most - 1, -most, -far, -1, 0, 1, 3, 4, 20, 21, far + 1, most, most + 1, math.MaxInt}
	for _, n := range edges {
		for _, m := range edges {
			for _, s := range []api.System{
				system{[]terms{{{n, 1, 0, 0}}}, sides{{0, 0}}}.system(),
				system{[]terms{{{5, m, 0, 0}}}, sides{{0, 0}}}.system(),
				system{[]terms{{{1000, 1, 0, 0}}}, sides{{n, m}}}.system(),
				anyPush.system(),
				none.system(),
			} {
				checkMeantRun(t, s, sides{{n, m}}.box(), 2)
				checkMeantRun(t, s, sides{{m, m}}.box(), n)
				checkMeantPath(t, s, []int{m}, nil)
				checkMeantPath(t, s, []int{m}, [][]int{{n}})
				checkMeantPath(t, s, []int{m}, [][]int{{0}, {n}, {m}})
			}
		}
	}
}

// partOf gives the number so many thirds into a span.
func partOf(s api.Span, thirds int) int { return s.Lo + (s.Hi-s.Lo)*thirds/3 }

// TestPathStaysInTube asks whether each point of a path out of a box, with pushes of their spans, is in the box of its step.
func TestPathStaysInTube(t *testing.T) {
	places := sides{{-1500, -999}, {-7, 0}, {-800, 1733}, {0, 999}, {1234, 1234}, {501, 1000}}.box()
	for _, s := range []struct {
		s     system
		steps int
	}{
		{none, 20}, {half, 20}, {back, 20}, {third, 20}, {little, 20}, {square, 3}, {several, 2}, {double, 3},
		{turn, 20}, {swap, 20}, {mixed, 7}, {cycle, 3}, {round, 20}, {three, 6}, {spread, 12},
	} {
		for _, b := range lists(places, 3) {
			if len(b) == len(s.s.next) {
				staysInTube(t, s.s.system(), b, s.steps)
			}
		}
	}
}

func staysInTube(t *testing.T, s api.System, b []api.Span, steps int) {
	t.Helper()
	tube, err := flow.Run(s, b, steps)
	if err != nil || len(tube) != steps+1 {
		t.Fatalf("Run(%v, %v, %d) = %v, %v", s, b, steps, tube, err)
	}
	for i, parts := range lists([]int{0, 1, 3}, len(b)) {
		if len(parts) != len(b) {
			continue
		}
		x, push := make([]int, len(b)), make([][]int, steps)
		for k := range b {
			x[k] = partOf(b[k], parts[k])
		}
		for at := range push {
			for k, span := range s.Push {
				push[at] = append(push[at], partOf(span, []int{0, 3, 2}[(i+k+at*(i/3+1))%3]))
			}
		}
		path, err := flow.Path(s, x, push)
		if err != nil || len(path) != steps+1 {
			t.Fatalf("Path(%v, %v, %v) = %v, %v", s, x, push, path, err)
		}
		for at, point := range path {
			for k, n := range point {
				if side := tube[at][k]; n < side.Lo || n > side.Hi {
					t.Errorf("Run(%v, %v, %d) = %v, and Path(%v, %v), %v, is not in that", s, b, steps, tube, x, push, path)
				}
			}
		}
	}
}

// TestShared asks with one list at several places: that makes no difference, and none of them is what is told.
func TestShared(t *testing.T) {
	f := terms{{1000, 1, 0, 0}, {1000, 0, 1, 0}}.form()
	spans := sides{{-5, 5}, {1, 2}}.box()
	s := api.System{Next: [][]api.Term{f, f}, Push: spans}
	numbers := []int{-4, 2}
	for range 3 {
		all, err := flow.Run(s, spans, 2)
		if want := boxes([]sides{{{-5, 5}, {1, 2}}, {{-9, 12}, {-3, 9}}, {{-17, 26}, {-11, 23}}}); !sameLists(all, want) || err != nil {
			t.Errorf("Run(%v, %v, 2) = %v, %v; want %v", s, spans, all, err, want)
		}
		path, err := flow.Path(s, numbers, [][]int{numbers, numbers})
		if want := [][]int{{-4, 2}, {-6, 0}, {-10, -4}}; !sameLists(path, want) || err != nil {
			t.Errorf("Path(%v, %v, twice that) = %v, %v; want %v", s, numbers, path, err, want)
		}
		wide, err := flow.Wide(s, spans, 2)
		if want := []int{10, 21, 43}; !slices.Equal(wide, want) || err != nil {
			t.Errorf("Wide(%v, %v, 2) = %v, %v; want %v", s, spans, wide, err, want)
		}
		spoilLists(all, func(i int) api.Span { return api.Span{Lo: i} })
		spoilLists(path, func(i int) int { return i })
		spoil(wide, behind)
	}
}

// TestFresh sees that what a call told before is not written over by a later one.
func TestFresh(t *testing.T) {
	s, b := turn.system(), sides{{1000, 2000}, {-1000, 1000}}.box()
	push := [][]int{{0, 10}, {5, 10}}
	all, _ := flow.Run(s, b, 2)
	path, _ := flow.Path(s, []int{1500, -500}, push)
	wide, _ := flow.Wide(s, b, 2)
	for range 3 {
		// What was told is handed in as well, as a caller does that goes on from there.
		others, _ := flow.Run(s, all[2], 2)
		spoilLists(others, func(i int) api.Span { return api.Span{Lo: i} })
		points, _ := flow.Path(s, path[2], push)
		spoilLists(points, func(i int) int { return i })
		widths, _ := flow.Wide(s, all[0], 2)
		spoil(widths, behind)
	}
	wantAll := boxes([]sides{{{1000, 2000}, {-1000, 1000}}, {{695, 2005}, {-1290, 710}}, {{362, 1952}, {-1552, 510}}})
	wantPath, wantWide := [][]int{{1500, -500}, {1250, -740}, {982, -906}}, []int{2000, 2000, 2062}
	if !sameLists(all, wantAll) || !sameLists(path, wantPath) || !slices.Equal(wide, wantWide) {
		t.Errorf("what was told as %v, %v and %v is now %v, %v and %v", wantAll, wantPath, wantWide, all, path, wide)
	}
}

// TestAgain asks the same again, behind other calls: what is told hangs on what is handed in alone.
func TestAgain(t *testing.T) {
	s, b := turn.system(), sides{{1000, 2000}, {-1000, 1000}}.box()
	for range 3 {
		checkRun(t, s, b, 1, boxes([]sides{{{1000, 2000}, {-1000, 1000}}, {{695, 2005}, {-1290, 710}}}), api.OK)
		checkPath(t, s, []int{1500, -500}, [][]int{{0, 10}}, [][]int{{1500, -500}, {1250, -740}}, api.OK)
		checkWide(t, s, b, 1, []int{2000, 2000}, api.OK)
		checkNoBoxes(t, s, b, 21, api.ErrRange)
		checkNoBoxes(t, s, b[:1], 1, api.ErrShape)
		checkPath(t, s, []int{1500, -500}, [][]int{{0, 10}, {0, 11}}, nil, api.ErrRange)
	}
}

// timesThatMayBe gives how often three unknowns may stand in a Term.
func timesThatMayBe() [][3]int {
	var l [][3]int
	for _, times := range lists([]int{0, 1, 2, 3}, 3) {
		if len(times) == 3 && times[0]+times[1]+times[2] <= 3 {
			l = append(l, [3]int(times))
		}
	}
	return l
}

// madeUp is a system of so many polynomials, out of some numbers and whatever pick picks.
func madeUp(many int, pick uint32, numbers []int) api.System {
	good := timesThatMayBe()
	s := api.System{Next: make([][]api.Term, many), Push: make([]api.Span, many)}
	rest := pick
	for i := range s.Next {
		s.Next[i] = make([]api.Term, rest%8)
		for j := range s.Next[i] {
			rest = rest/3 + pick + uint32(i+j)
			times := good[int(rest)%len(good)]
			// Most Terms would have unknowns that are not there, were they not left out here.
			for k := many; k < len(times) && rest%31 > 0; k++ {
				times[k] = 0
			}
			s.Next[i][j] = api.Term{By: numbers[(i+j)%len(numbers)], Times: times}
		}
		lo, hi := numbers[(i+1)%len(numbers)], numbers[(2*i+2)%len(numbers)]
		s.Push[i] = api.Span{Lo: min(lo, hi), Hi: max(lo, hi)}
	}
	return s
}

// FuzzWalk holds systems of up to four unknowns, over any box, at any numbers and with any pushes, against what is meant.
func FuzzWalk(f *testing.F) {
	f.Add(uint8(2), uint8(2), uint8(3), uint32(1), 3, -500, 250, 7, -4000, -3998, -3551, -551)
	f.Add(uint8(3), uint8(3), uint8(20), uint32(987654321), 20, 1, -2, 3, -1000, 2000, 5, -7)
	f.Add(uint8(4), uint8(0), uint8(21), uint32(0), math.MinInt, math.MinInt, math.MaxInt, 0, math.MaxInt, math.MinInt, 0, 1)
	f.Fuzz(func(t *testing.T, many, wide, pushes uint8, pick uint32, steps, a, b, c, p, q, r, s int) {
		for _, bound := range []int{math.MaxInt, most + 2, far + 2, 700} {
			// Most ints are none that may be, and most products are beyond it, so they are brought near as well.
			numbers := []int{a % bound, b % bound, c % bound, p % bound, q % bound, r % bound, s % bound}
			for _, sides := range []int{int(wide % 5), int(many % 5)} {
				made := madeUp(int(many%5), pick, numbers)
				over, x := make([]api.Span, sides), make([]int, sides)
				for i := range over {
					lo, hi := numbers[3+i%4], numbers[3+(i+1)%4]
					over[i], x[i] = api.Span{Lo: min(lo, hi), Hi: max(lo, hi)}, lo
				}
				push := make([][]int, pushes%23)
				for at := range push {
					push[at] = pushesFor(made, int(pick%1000)*at)
				}
				checkMeantRun(t, made, over, steps)
				checkMeantRun(t, made, over, steps%23)
				checkMeantPath(t, made, x, push)
			}
		}
	})
}
