package safe_test

import (
	"math"
	"slices"
	"strings"
	"testing"

	"spanmeadow/api"
	"spanmeadow/box"
	"spanmeadow/flow"
	"spanmeadow/plain"
	"spanmeadow/safe"
)

// top is the greatest number that may be.
const top = api.MaxNumber

// far is how far from 0 the numbers are of which Path tells what is next.
const far = 20 * api.One

// behind is what is laid behind a list's length, to tell whether it is read or written.
const behind = 4711

// terms of a polynomial: by, and how often each unknown.
type terms [][4]int

// form of these terms; of none nil stays nil, so that it is asked too.
func (l terms) form() []api.Term {
	if l == nil {
		return nil
	}
	f := make([]api.Term, len(l))
	for i, t := range l {
		f[i] = api.Term{By: t[0], Times: [3]int(t[1:])}
	}
	return f
}

// sides of a box, or pushes, by their ends.
type sides [][2]int

// box of these sides, likewise.
func (l sides) box() []api.Span {
	if l == nil {
		return nil
	}
	b := make([]api.Span, len(l))
	for i, ends := range l {
		b[i] = api.Span{Lo: ends[0], Hi: ends[1]}
	}
	return b
}

// system of polynomials and pushes.
type system struct {
	next []terms
	push sides
}

func (s system) system() api.System {
	made := api.System{Push: s.push.box()}
	if s.next != nil {
		made.Next = make([][]api.Term, len(s.next))
	}
	for i, l := range s.next {
		made.Next[i] = l.form()
	}
	return made
}

// handed is a list for a call, with memory behind its length; unchanged tells whether all of it is as it was.
func handed[T comparable](l []T, after T) (list []T, unchanged func() bool) {
	if l == nil {
		return nil, func() bool { return true }
	}
	whole := append(slices.Clone(l), after, after)
	before := slices.Clone(whole)
	return whole[:len(l)], func() bool { return slices.Equal(whole, before) }
}

// handedLists is likewise a list of lists, with memory behind it and behind each of them.
func handedLists[T comparable](l [][]T, after T) (list [][]T, unchanged func() bool) {
	if l == nil {
		return nil, func() bool { return true }
	}
	whole, asks := make([][]T, 0, len(l)+2), []func() bool{}
	for _, one := range l {
		inner, same := handed(one, after)
		whole, asks = append(whole, inner), append(asks, same)
	}
	whole = append(whole, []T{after}, nil)
	before := slices.Clone(whole)
	return whole[:len(l)], func() bool {
		return slices.EqualFunc(whole, before, sameMemory) &&
			!slices.ContainsFunc(asks, func(same func() bool) bool { return !same() })
	}
}

// sameMemory tells whether two lists are one.
func sameMemory[T any](a, b []T) bool {
	return len(a) == len(b) && cap(a) == cap(b) && (cap(a) == 0 || &a[:1][0] == &b[:1][0])
}

func handedBox(b []api.Span) ([]api.Span, func() bool) {
	return handed(b, api.Span{Lo: behind, Hi: -behind})
}

// handedSystem is a system for a call, with memory behind each of its lists.
func handedSystem(s api.System) (api.System, func() bool) {
	next, nextSame := handedLists(s.Next, api.Term{By: math.MinInt, Times: [3]int{behind, -behind, behind}})
	push, pushSame := handedBox(s.Push)
	return api.System{Next: next, Push: push}, func() bool { return nextSame() && pushSame() }
}

// checkTold asks one of the calls, by its name, and sees that it tells that, and changes nothing that it is handed.
func checkTold[T comparable](t *testing.T, name string, call func(s api.System, b, bad []api.Span, steps int) (T, error),
	s api.System, b, bad []api.Span, steps int, want T, told api.Errno) {
	t.Helper()
	list, listSame := handedSystem(s)
	over, overSame := handedBox(b)
	there, thereSame := handedBox(bad)
	got, err := call(list, over, there, steps)
	if got != want || plain.Told(err) != told {
		t.Errorf("%s(%v, %v, %v, %d) = %v, %v; want %v, %v", name, s, b, bad, steps, got, err, want, told)
	}
	if !listSame() || !overSame() || !thereSame() {
		t.Errorf("%s(%v, %v, %v, %d) changed what it was handed", name, s, b, bad, steps)
	}
}

func checkWhen(t *testing.T, s api.System, b, bad []api.Span, steps, want int, told api.Errno) {
	t.Helper()
	checkTold(t, "When", safe.When, s, b, bad, steps, want, told)
}

func checkClear(t *testing.T, s api.System, b, bad []api.Span, steps int, want bool, told api.Errno) {
	t.Helper()
	checkTold(t, "Clear", safe.Clear, s, b, bad, steps, want, told)
}

// checkFirst sees that both calls tell the first step that is there, by its number; below 0 it is none.
func checkFirst(t *testing.T, s api.System, b, bad []api.Span, steps, first int) {
	t.Helper()
	if first < 0 {
		checkWhen(t, s, b, bad, steps, 0, api.ErrNone)
	} else {
		checkWhen(t, s, b, bad, steps, first, api.OK)
	}
	checkClear(t, s, b, bad, steps, first < 0, api.OK)
}

// checkNot sees that both calls tell what is wrong, and nothing else.
func checkNot(t *testing.T, s api.System, b, bad []api.Span, steps int, told api.Errno) {
	t.Helper()
	checkWhen(t, s, b, bad, steps, 0, told)
	checkClear(t, s, b, bad, steps, false, told)
}

// The polynomials and systems that several tests take.
var (
	ofX = terms{{1000, 1, 0, 0}}
	ofY = terms{{1000, 0, 1, 0}}
	ofZ = terms{{1000, 0, 0, 1}}

	none    = system{[]terms{nil}, sides{{-30, 10}}}
	half    = system{[]terms{{{500, 1, 0, 0}}}, sides{{-10, 20}}}
	back    = system{[]terms{{{-500, 1, 0, 0}}}, sides{{3, 3}}}
	third   = system{[]terms{{{333, 1, 0, 0}}}, sides{{0, 0}}}
	square  = system{[]terms{{{1000, 2, 0, 0}, {-750, 0, 0, 0}}}, sides{{-1, 1}}}
	several = system{[]terms{{{371, 3, 0, 0}, {-437, 2, 0, 0}, {-500, 0, 0, 0}}}, sides{{18, 26}}}
	many    = system{[]terms{{{200, 3, 0, 0}, {-100, 2, 0, 0}, {300, 1, 0, 0}, {50, 0, 0, 0}}}, sides{{-4, 0}}}
	flip    = system{[]terms{{{-1000, 1, 0, 0}}}, sides{{0, 0}}}
	drift   = system{[]terms{ofX}, sides{{100, 103}}}
	double  = system{[]terms{{{2000, 1, 0, 0}}}, sides{{0, 0}}}
	empty   = system{[]terms{nil, {}}, sides{{-1, 22}, {16, 18}}}
	turn    = system{[]terms{{{900, 1, 0, 0}, {200, 0, 1, 0}}, {{-200, 1, 0, 0}, {900, 0, 1, 0}}}, sides{{-5, 5}, {10, 10}}}
	calm    = system{[]terms{{{500, 1, 0, 0}, {200, 0, 1, 0}}, {{-200, 1, 0, 0}, {500, 0, 1, 0}}}, sides{{-5, 5}, {10, 10}}}
	swap    = system{[]terms{ofY, ofX}, sides{{1, 1}, {20, 20}}}
	apart   = system{[]terms{{{1500, 1, 0, 0}}, {{1000, 0, 1, 0}, {-200, 0, 0, 0}}}, sides{{0, 0}, {-1, 1}}}
	mixed   = system{[]terms{{}, {{1000, 1, 1, 0}, {7, 0, 0, 0}}}, sides{{-2, 3}, {0, 1}}}
	hush    = system{[]terms{nil, nil, nil}, sides{{-5, 5}, {7, 7}, {-9, -8}}}
	cycle   = system{[]terms{ofY, ofZ, {{1000, 1, 1, 1}}}, sides{{-1, 1}, {0, 0}, {2, 3}}}
	three   = system{[]terms{nil, {{1000, 1, 0, 1}}, {{7, 0, 0, 0}, {250, 0, 1, 0}, {-125, 2, 0, 0}}}, sides{{5, 6}, {-1, 0}, {0, 1}}}
	chain   = system{[]terms{{{500, 0, 1, 0}}, {{500, 0, 0, 1}, {3, 0, 0, 0}}, {{-250, 1, 0, 0}, {100, 0, 1, 1}}}, sides{{-1, 1}, {0, 0}, {20, 40}}}
	ring    = system{[]terms{ofZ, ofX, ofY}, sides{{0, 0}, {0, 0}, {0, 0}}}
	leave   = system{[]terms{{{1500, 1, 0, 0}}, {{1000, 0, 1, 0}, {300, 0, 0, 0}}, {{-1000, 1, 0, 0}}}, sides{{0, 0}, {-2, 2}, {-3, 3}}}
)

// goodSystems have nothing wrong with them.
var goodSystems = []system{none, half, back, third, square, several, many, flip, drift, double, empty, turn, calm, swap, apart, mixed, hush, cycle, three, chain, ring, leave}

// meeting is what is bad, and a mark for each box of a tube: # where it has something in common with that, else a dot.
type meeting struct {
	bad   sides
	marks string
}

// tube is a system, the boxes behind no step, one, two and so on, and what these meet.
type tube struct {
	s    system
	all  []sides
	meet []meeting
}

// tubes were reckoned apart, in exact numbers, the marks as well.
var tubes = []tube{
	// Of one unknown: of no Term, of one, of several; with a push of one number, and of several.
	{none, []sides{
		{{5, 7}}, {{-30, 10}}, {{-30, 10}}, {{-30, 10}},
	}, []meeting{
		{sides{{6, 6}}, "####"},
		{sides{{7, 9}}, "####"},
		{sides{{8, 9}}, ".###"},
		{sides{{10, 10}}, ".###"},
		{sides{{11, 99}}, "...."},
		{sides{{-99, -31}}, "...."},
		{sides{{-99, -30}}, ".###"},
		{sides{{-top, top}}, "####"},
	}},
	{half, []sides{
		{{1000, 3000}}, {{490, 1520}}, {{235, 780}}, {{107, 410}}, {{43, 225}}, {{11, 133}}, {{-5, 87}}, {{-13, 64}}, {{-17, 52}},
		{{-19, 46}}, {{-20, 43}}, {{-20, 42}}, {{-20, 41}},
	}, []meeting{
		{sides{{2000, 2500}}, "#............"},
		{sides{{3000, 3000}}, "#............"},
		{sides{{3001, top}}, "............."},
		{sides{{1520, 1530}}, "##..........."},
		{sides{{500, 600}}, ".##.........."},
		{sides{{0, 10}}, "......#######"},
		{sides{{-99, -20}}, "..........###"},
		{sides{{-99, -21}}, "............."},
		{sides{{-top, top}}, "#############"},
	}},
	{half, []sides{
		{{-3000, -1000}}, {{-1510, -480}}, {{-765, -220}}, {{-393, -90}}, {{-207, -25}}, {{-114, 8}},
	}, []meeting{
		{sides{{-1000, top}}, "######"},
		{sides{{-999, top}}, ".#####"},
		{sides{{-200, -199}}, "...##."},
		{sides{{-24, 7}}, ".....#"},
		{sides{{8, 8}}, ".....#"},
		{sides{{9, 9}}, "......"},
		{sides{{-top, -3001}}, "......"},
	}},
	{back, []sides{
		{{2000, 2000}}, {{-997, -997}}, {{501, 502}}, {{-248, -247}}, {{126, 127}}, {{-61, -60}}, {{33, 34}}, {{-14, -13}}, {{9, 10}},
		{{-2, -1}}, {{3, 4}}, {{1, 2}}, {{2, 3}}, {{1, 2}}, {{2, 3}},
	}, []meeting{
		{sides{{400, 600}}, "..#............"},
		{sides{{-300, -200}}, "...#..........."},
		{sides{{-2000, -1}}, ".#.#.#.#.#....."},
		{sides{{1, 1}}, "...........#.#."},
		{sides{{5, 8}}, "..............."},
		{sides{{3, 3}}, "..........#.#.#"},
		{sides{{4, 8}}, "..........#...."},
		{sides{{1999, top}}, "#.............."},
		{sides{{503, 1999}}, "..............."},
	}},
	{third, []sides{
		{{1000, 1000}}, {{333, 333}}, {{110, 111}}, {{36, 37}}, {{11, 13}}, {{3, 5}}, {{0, 2}}, {{0, 1}}, {{0, 1}},
	}, []meeting{
		{sides{{0, 0}}, "......###"},
		{sides{{1, 1}}, "......###"},
		{sides{{12, 12}}, "....#...."},
		{sides{{37, 110}}, "..##....."},
		{sides{{38, 109}}, "........."},
		{sides{{-99, -1}}, "........."},
		{sides{{334, 1000}}, "#........"},
	}},
	{square, []sides{
		{{0, 0}}, {{-751, -749}}, {{-190, -184}}, {{-718, -712}}, {{-245, -233}}, {{-697, -688}}, {{-278, -263}}, {{-682, -671}},
		{{-301, -283}}, {{-671, -658}},
	}, []meeting{
		{sides{{-200, -190}}, "..#......."},
		{sides{{-300, -240}}, "....#.#.#."},
		{sides{{-700, -690}}, ".....#...."},
		{sides{{-183, -1}}, ".........."},
		{sides{{-280, -279}}, ".........."},
		{sides{{0, 99}}, "#........."},
		{sides{{-top, -752}}, ".........."},
		{sides{{-750, -750}}, ".#........"},
	}},
	{several, []sides{
		{{-796, 236}}, {{-948, -468}}, {{-1192, -606}}, {{-1732, -716}}, {{-3721, -832}}, {{-25648, -989}}, {{-6547376, -1259}},
	}, []meeting{
		{sides{{0, 0}}, "#......"},
		{sides{{-500, -480}}, "##....."},
		{sides{{-2000, -1800}}, "....###"},
		{sides{{-top, -25649}}, "......#"},
		{sides{{-1259, -1100}}, "..#####"},
		{sides{{-600, -468}}, "##....."},
		{sides{{-top, -6547377}}, "......."},
		{sides{{237, top}}, "......."},
	}},
	{many, []sides{
		{{900, 1000}}, {{361, 469}}, {{141, 199}}, {{84, 111}}, {{69, 85}}, {{65, 77}}, {{64, 75}}, {{64, 74}}, {{64, 74}},
	}, []meeting{
		{sides{{64, 64}}, "......###"},
		{sides{{0, 63}}, "........."},
		{sides{{75, 76}}, "....###.."},
		{sides{{77, 80}}, "....##..."},
		{sides{{199, 361}}, ".##......"},
		{sides{{200, 360}}, "........."},
		{sides{{470, 899}}, "........."},
		{sides{{1000, 1000}}, "#........"},
	}},
	{flip, []sides{
		{{5, 9}}, {{-9, -5}}, {{5, 9}}, {{-9, -5}}, {{5, 9}}, {{-9, -5}}, {{5, 9}},
	}, []meeting{
		{sides{{-5, -5}}, ".#.#.#."},
		{sides{{-4, 4}}, "......."},
		{sides{{9, 20}}, "#.#.#.#"},
		{sides{{-top, -6}}, ".#.#.#."},
		{sides{{-5, 5}}, "#######"},
	}},
	{drift, []sides{
		{{0, 5}}, {{100, 108}}, {{200, 211}}, {{300, 314}}, {{400, 417}}, {{500, 520}}, {{600, 623}}, {{700, 726}}, {{800, 829}},
		{{900, 932}}, {{1000, 1035}}, {{1100, 1138}}, {{1200, 1241}}, {{1300, 1344}}, {{1400, 1447}}, {{1500, 1550}}, {{1600, 1653}},
		{{1700, 1756}}, {{1800, 1859}}, {{1900, 1962}}, {{2000, 2065}},
	}, []meeting{
		{sides{{500, 500}}, ".....#..............."},
		{sides{{521, 599}}, "....................."},
		{sides{{521, 600}}, "......#.............."},
		{sides{{2000, 2010}}, "....................#"},
		{sides{{2065, top}}, "....................#"},
		{sides{{2066, top}}, "....................."},
		{sides{{-99, -1}}, "....................."},
		{sides{{1138, 1300}}, "...........###......."},
	}},
	{double, []sides{
		{{1, 2}}, {{2, 4}}, {{4, 8}}, {{8, 16}}, {{16, 32}}, {{32, 64}}, {{64, 128}}, {{128, 256}}, {{256, 512}}, {{512, 1024}},
		{{1024, 2048}}, {{2048, 4096}}, {{4096, 8192}}, {{8192, 16384}}, {{16384, 32768}}, {{32768, 65536}}, {{65536, 131072}},
		{{131072, 262144}}, {{262144, 524288}}, {{524288, 1048576}}, {{1048576, 2097152}},
	}, []meeting{
		{sides{{1000000, 1000000}}, "...................#."},
		{sides{{1048577, top}}, "....................#"},
		{sides{{2097152, 2097152}}, "....................#"},
		{sides{{2097153, top}}, "....................."},
		{sides{{-top, 0}}, "....................."},
		{sides{{1, 1}}, "#...................."},
		{sides{{4, 4}}, ".##.................."},
	}},
	// Of two, of which both, one or none depends on the other one.
	{empty, []sides{
		{{5, 6}, {17, 17}}, {{-1, 22}, {16, 18}}, {{-1, 22}, {16, 18}}, {{-1, 22}, {16, 18}},
	}, []meeting{
		{sides{{6, 8}, {10, 17}}, "####"},
		{sides{{-5, -1}, {18, 19}}, ".###"},
		{sides{{-5, -2}, {16, 18}}, "...."},
		{sides{{-1, 22}, {19, 30}}, "...."},
		{sides{{-top, top}, {-top, top}}, "####"},
		{sides{{7, 9}, {17, 17}}, ".###"},
	}},
	{turn, []sides{
		{{1000, 1000}, {-1000, -1000}}, {{695, 705}, {-1090, -1090}}, {{402, 422}, {-1112, -1110}}, {{133, 163}, {-1076, -1069}},
		{{-102, -61}, {-992, -978}}, {{-296, -244}, {-871, -849}}, {{-447, -383}, {-726, -694}}, {{-554, -477}, {-568, -524}},
		{{-618, -528}, {-407, -350}}, {{-644, -540}, {-252, -181}}, {{-636, -517}, {-109, -23}}, {{-600, -464}, {14, 118}},
		{{-543, -388}, {114, 237}}, {{-472, -296}, {189, 333}}, {{-393, -194}, {239, 405}}, {{-312, -88}, {263, 454}},
		{{-234, 17}, {263, 482}}, {{-164, 118}, {242, 491}}, {{-105, 211}, {203, 485}}, {{-60, 292}, {149, 468}},
		{{-30, 362}, {85, 444}},
	}, []meeting{
		{sides{{0, 200}, {-1200, -1000}}, "...#................."},
		{sides{{-300, -250}, {-900, -800}}, ".....#..............."},
		{sides{{-700, -400}, {-100, 100}}, "..........##........."},
		{sides{{0, 99}, {-500, 0}}, "....................."},
		{sides{{-99, 0}, {400, 500}}, "...............######"},
		{sides{{300, top}, {0, 500}}, "....................#"},
		{sides{{363, top}, {0, 500}}, "....................."},
		{sides{{300, top}, {445, 500}}, "....................."},
		{sides{{293, 362}, {444, 444}}, "....................#"},
	}},
	{calm, []sides{
		{{1000, 2000}, {-1000, 1000}}, {{295, 1205}, {-890, 310}}, {{-36, 670}, {-676, 106}}, {{-159, 362}, {-462, 71}},
		{{-178, 201}, {-294, 78}}, {{-153, 122}, {-178, 85}}, {{-118, 83}, {-104, 84}}, {{-85, 64}, {-59, 76}}, {{-60, 53}, {-33, 65}},
	}, []meeting{
		{sides{{-200, -160}, {-top, top}}, "....#...."},
		{sides{{500, 600}, {400, 900}}, "........."},
		{sides{{600, 700}, {200, 300}}, ".#......."},
		{sides{{-60, -60}, {-33, -33}}, "...######"},
		{sides{{-61, -60}, {90, 99}}, "........."},
		{sides{{1500, 1600}, {-900, 900}}, "#........"},
	}},
	{swap, []sides{
		{{1, 2}, {-40, -30}}, {{-39, -29}, {21, 22}}, {{22, 23}, {-19, -9}}, {{-18, -8}, {42, 43}}, {{43, 44}, {2, 12}},
		{{3, 13}, {63, 64}}, {{64, 65}, {23, 33}}, {{24, 34}, {84, 85}}, {{85, 86}, {44, 54}}, {{45, 55}, {105, 106}},
		{{106, 107}, {65, 75}}, {{66, 76}, {126, 127}}, {{127, 128}, {86, 96}}, {{87, 97}, {147, 148}}, {{148, 149}, {107, 117}},
		{{108, 118}, {168, 169}}, {{169, 170}, {128, 138}}, {{129, 139}, {189, 190}}, {{190, 191}, {149, 159}}, {{150, 160}, {210, 211}},
		{{211, 212}, {170, 180}},
	}, []meeting{
		{sides{{40, 50}, {0, 20}}, "....#................"},
		{sides{{40, 46}, {0, 106}}, "....#....#..........."},
		{sides{{0, 70}, {0, 70}}, "....###.............."},
		{sides{{211, 211}, {180, 180}}, "....................#"},
		{sides{{213, top}, {0, top}}, "....................."},
		{sides{{-top, 0}, {-top, top}}, ".#.#................."},
		{sides{{3, 12}, {63, 63}}, ".....#..............."},
		{sides{{1, 1}, {-30, -30}}, "#...................."},
	}},
	{apart, []sides{
		{{1000, 1001}, {7, 9}}, {{1500, 1502}, {-194, -190}}, {{2250, 2253}, {-395, -389}}, {{3375, 3380}, {-596, -588}},
		{{5062, 5070}, {-797, -787}}, {{7593, 7605}, {-998, -986}}, {{11389, 11408}, {-1199, -1185}}, {{17083, 17112}, {-1400, -1384}},
		{{25624, 25668}, {-1601, -1583}}, {{38436, 38502}, {-1802, -1782}}, {{57654, 57753}, {-2003, -1981}},
		{{86481, 86630}, {-2204, -2180}}, {{129721, 129945}, {-2405, -2379}}, {{194581, 194918}, {-2606, -2578}},
		{{291871, 292377}, {-2807, -2777}}, {{437806, 438566}, {-3008, -2976}}, {{656709, 657849}, {-3209, -3175}},
		{{985063, 986774}, {-3410, -3374}}, {{1477594, 1480161}, {-3611, -3573}}, {{2216391, 2220242}, {-3812, -3772}},
		{{3324586, 3330363}, {-4013, -3971}},
	}, []meeting{
		{sides{{5000, 6000}, {-1000, -700}}, "....#................"},
		{sides{{5000, 6000}, {-700, -700}}, "....................."},
		{sides{{2000, 9000}, {-800, -700}}, "....#................"},
		{sides{{3330363, top}, {-4013, -4013}}, "....................#"},
		{sides{{3330364, top}, {-4013, -4013}}, "....................."},
		{sides{{1001, 1499}, {9, top}}, "#...................."},
		{sides{{1000, top}, {-top, -3813}}, "....................#"},
	}},
	{mixed, []sides{
		{{-1000, 2000}, {3000, 3001}}, {{-2, 3}, {-2994, 6010}}, {{-2, 3}, {-6, 27}}, {{-2, 3}, {6, 9}}, {{-2, 3}, {6, 9}},
	}, []meeting{
		{sides{{0, 0}, {0, 0}}, ".##.."},
		{sides{{3, 9}, {8, 20}}, ".####"},
		{sides{{4, 9}, {-top, top}}, "#...."},
		{sides{{-99, -2}, {-99, -7}}, ".#..."},
		{sides{{-1000, -3}, {3001, 3001}}, "#...."},
	}},
	// Of three.
	{hush, []sides{
		{{0, 0}, {0, 0}, {0, 0}}, {{-5, 5}, {7, 7}, {-9, -8}}, {{-5, 5}, {7, 7}, {-9, -8}},
	}, []meeting{
		{sides{{0, 0}, {0, 0}, {0, 0}}, "#.."},
		{sides{{-1, 1}, {0, 7}, {-8, -1}}, ".##"},
		{sides{{-1, 1}, {0, 6}, {-9, -8}}, "..."},
		{sides{{-9, 9}, {7, 7}, {-7, 0}}, "..."},
		{sides{{6, 9}, {7, 7}, {-9, -8}}, "..."},
		{sides{{5, 9}, {7, 7}, {-9, -9}}, ".##"},
	}},
	{cycle, []sides{
		{{100, 200}, {-300, -100}, {0, 50}}, {{-301, -99}, {0, 50}, {-1, 3}}, {{-1, 51}, {-1, 3}, {1, 4}}, {{-2, 4}, {1, 4}, {1, 4}},
		{{0, 5}, {1, 4}, {1, 4}}, {{0, 5}, {1, 4}, {2, 4}}, {{0, 5}, {2, 4}, {2, 4}}, {{1, 5}, {2, 4}, {2, 4}}, {{1, 5}, {2, 4}, {2, 4}},
	}, []meeting{
		{sides{{-9, 0}, {1, 3}, {1, 9}}, "..#####.."},
		{sides{{0, 0}, {-9, 9}, {-9, 9}}, "..#####.."},
		{sides{{-9, 9}, {-9, 1}, {-9, 9}}, "..####..."},
		{sides{{-9, 9}, {-9, 9}, {-9, 0}}, "........."},
		{sides{{-top, -1}, {1, 4}, {4, 4}}, "..##....."},
		{sides{{201, top}, {-top, top}, {-top, top}}, "........."},
	}},
	{three, []sides{
		{{-1000, 2000}, {9, 9}, {3000, 4000}}, {{5, 6}, {-4001, 8000}, {-491, 11}}, {{5, 6}, {-4, 1}, {-995, 2008}},
		{{5, 6}, {-7, 13}, {5, 9}}, {{5, 6}, {-1, 1}, {4, 12}}, {{5, 6}, {-1, 1}, {5, 9}}, {{5, 6}, {-1, 1}, {5, 9}},
	}, []meeting{
		{sides{{0, 5}, {-9, -5}, {0, 5}}, ".#.#..."},
		{sides{{6, 6}, {1, 9}, {12, 99}}, "..#.#.."},
		{sides{{-9, 9}, {2, 8}, {-top, top}}, ".#.#..."},
		{sides{{7, 99}, {-top, top}, {-top, 2999}}, "......."},
		{sides{{-9, 9}, {-9, 9}, {-9, 4}}, ".##.#.."},
	}},
	{chain, []sides{
		{{500, 600}, {-200, 100}, {3, 3}}, {{-101, 51}, {4, 5}, {-131, -84}}, {{1, 4}, {-63, -39}, {6, 66}},
		{{-33, -18}, {6, 36}, {18, 40}}, {{2, 19}, {12, 23}, {24, 50}}, {{5, 13}, {15, 28}, {15, 41}}, {{6, 15}, {10, 24}, {16, 40}},
		{{4, 13}, {11, 23}, {16, 40}}, {{4, 13}, {11, 23}, {16, 40}},
	}, []meeting{
		{sides{{-99, -18}, {0, 99}, {0, 99}}, "...#....."},
		{sides{{0, 99}, {0, 99}, {0, 99}}, "....#####"},
		{sides{{0, 3}, {0, 99}, {0, 99}}, "....#...."},
		{sides{{5, 5}, {24, 28}, {15, 15}}, ".....#..."},
		{sides{{0, 99}, {-99, -1}, {0, 5}}, "........."},
		{sides{{14, 14}, {0, 99}, {41, 41}}, "....#...."},
	}},
	{ring, []sides{
		{{1, 2}, {30, 40}, {500, 600}}, {{500, 600}, {1, 2}, {30, 40}}, {{30, 40}, {500, 600}, {1, 2}}, {{1, 2}, {30, 40}, {500, 600}},
		{{500, 600}, {1, 2}, {30, 40}}, {{30, 40}, {500, 600}, {1, 2}}, {{1, 2}, {30, 40}, {500, 600}}, {{500, 600}, {1, 2}, {30, 40}},
		{{30, 40}, {500, 600}, {1, 2}}, {{1, 2}, {30, 40}, {500, 600}}, {{500, 600}, {1, 2}, {30, 40}}, {{30, 40}, {500, 600}, {1, 2}},
		{{1, 2}, {30, 40}, {500, 600}}, {{500, 600}, {1, 2}, {30, 40}}, {{30, 40}, {500, 600}, {1, 2}}, {{1, 2}, {30, 40}, {500, 600}},
		{{500, 600}, {1, 2}, {30, 40}}, {{30, 40}, {500, 600}, {1, 2}}, {{1, 2}, {30, 40}, {500, 600}}, {{500, 600}, {1, 2}, {30, 40}},
		{{30, 40}, {500, 600}, {1, 2}},
	}, []meeting{
		{sides{{0, 9}, {0, 99}, {0, 999}}, "#..#..#..#..#..#..#.."},
		{sides{{0, 99}, {0, 999}, {0, 9}}, "..#..#..#..#..#..#..#"},
		{sides{{99, 999}, {2, 2}, {0, 999}}, ".#..#..#..#..#..#..#."},
		{sides{{3, 29}, {0, 999}, {0, 999}}, "....................."},
		{sides{{0, 999}, {41, 499}, {0, 999}}, "....................."},
		{sides{{0, 999}, {0, 999}, {0, 0}}, "....................."},
	}},
	{leave, []sides{
		{{1000, 1001}, {0, 5}, {0, 9}}, {{1500, 1502}, {298, 307}, {-1004, -997}}, {{2250, 2253}, {596, 609}, {-1505, -1497}},
		{{3375, 3380}, {894, 911}, {-2256, -2247}}, {{5062, 5070}, {1192, 1213}, {-3383, -3372}},
		{{7593, 7605}, {1490, 1515}, {-5073, -5059}}, {{11389, 11408}, {1788, 1817}, {-7608, -7590}},
		{{17083, 17112}, {2086, 2119}, {-11411, -11386}}, {{25624, 25668}, {2384, 2421}, {-17115, -17080}},
		{{38436, 38502}, {2682, 2723}, {-25671, -25621}}, {{57654, 57753}, {2980, 3025}, {-38505, -38433}},
		{{86481, 86630}, {3278, 3327}, {-57756, -57651}}, {{129721, 129945}, {3576, 3629}, {-86633, -86478}},
		{{194581, 194918}, {3874, 3931}, {-129948, -129718}}, {{291871, 292377}, {4172, 4233}, {-194921, -194578}},
		{{437806, 438566}, {4470, 4535}, {-292380, -291868}}, {{656709, 657849}, {4768, 4837}, {-438569, -437803}},
		{{985063, 986774}, {5066, 5139}, {-657852, -656706}}, {{1477594, 1480161}, {5364, 5441}, {-986777, -985060}},
		{{2216391, 2220242}, {5662, 5743}, {-1480164, -1477591}}, {{3324586, 3330363}, {5960, 6045}, {-2220245, -2216388}},
	}, []meeting{
		{sides{{5000, 6000}, {1200, 1200}, {-top, 0}}, "....#................"},
		{sides{{0, top}, {0, top}, {-9000, -7000}}, "......#.............."},
		{sides{{3330363, top}, {6045, top}, {-top, -2220245}}, "....................#"},
		{sides{{3330364, top}, {6045, top}, {-top, -2220245}}, "....................."},
		{sides{{3330363, top}, {6046, top}, {-top, -2220245}}, "....................."},
		{sides{{3330363, top}, {6045, top}, {-top, -2220246}}, "....................."},
		{sides{{1001, 1001}, {5, 5}, {9, 9}}, "#...................."},
	}},
}

// TestFirst asks from each box of these on, with each number of steps: the first that is marked is told, wherever the next one is that is not, and none with too few steps.
func TestFirst(t *testing.T) {
	for _, u := range tubes {
		for _, m := range u.meet {
			if len(m.marks) != len(u.all) {
				t.Fatalf("%d marks for %d boxes", len(m.marks), len(u.all))
			}
			for from := range u.all {
				checkFirstFrom(t, u.s.system(), u.all[from].box(), m.bad.box(), m.marks[from:])
			}
		}
	}
}

func checkFirstFrom(t *testing.T, s api.System, b, bad []api.Span, marks string) {
	t.Helper()
	for steps := range marks {
		checkFirst(t, s, b, bad, steps, strings.IndexByte(marks[:steps+1], '#'))
	}
}

// TestMarks sees that the tubes above have all that is to be asked, with each number of sides: there at first, behind one step, behind several, behind just the last that may be, first but not behind that, and never.
func TestMarks(t *testing.T) {
	last := strings.Repeat(".", 20) + "#"
	for sides := 1; sides <= 3; sides++ {
		var all []string
		for _, u := range tubes {
			for _, m := range u.meet {
				if len(m.bad) == sides {
					all = append(all, m.marks)
				}
			}
		}
		for _, begin := range []string{"#", ".#", "...#", "#.", ".#.", last} {
			if !slices.ContainsFunc(all, func(marks string) bool { return strings.HasPrefix(marks, begin) }) {
				t.Errorf("of %d sides no marks begin with %s", sides, begin)
			}
		}
		if !slices.ContainsFunc(all, func(marks string) bool { return !strings.Contains(marks, "#") }) {
			t.Errorf("of %d sides all marks have one that is there", sides)
		}
	}
}

// TestByOne sees that one number in common, at an end of one side, counts, and that missing it by a thousandth in that side alone does not, wherever that side stands and behind however many steps.
func TestByOne(t *testing.T) {
	for _, u := range tubes {
		// Of these no two boxes have anything in common in any side, so one of them alone is met.
		if !areApart(u.all) {
			continue
		}
		for at, b := range u.all {
			for k := range b {
				for _, others := range []sides{b, lowers(b), uppers(b), wholes(b)} {
					checkByOne(t, u, at, k, others)
				}
			}
		}
	}
}

// checkByOne asks with what is bad beside that side of a box of a tube, the other sides being those of others.
func checkByOne(t *testing.T, u tube, at, k int, others sides) {
	t.Helper()
	lo, hi := u.all[at][k][0], u.all[at][k][1]
	for _, c := range []struct {
		side  [2]int
		first int
	}{
		{[2]int{lo, lo}, at}, {[2]int{lo - 3, lo}, at}, {[2]int{hi, hi}, at}, {[2]int{hi, hi + 3}, at},
		{[2]int{lo - 1, lo - 1}, -1}, {[2]int{lo - 3, lo - 1}, -1}, {[2]int{hi + 1, hi + 1}, -1}, {[2]int{hi + 1, hi + 3}, -1},
	} {
		bad := slices.Clone(others)
		bad[k] = c.side
		s, b := u.s.system(), u.all[0].box()
		checkFirst(t, s, b, bad.box(), at, c.first)
		checkFirst(t, s, b, bad.box(), len(u.all)-1, c.first)
		if at > 0 {
			checkFirst(t, s, b, bad.box(), at-1, -1)
		}
		// Asked of that box as it is, too.
		checkFirst(t, s, u.all[at].box(), bad.box(), 0, min(c.first, 0))
	}
}

// areApart tells whether all sides of all boxes are well apart from those of the others, where they stand; a tube of few boxes is not asked.
func areApart(all []sides) bool {
	for i, a := range all {
		for _, b := range all[i+1:] {
			for k := range a {
				if a[k][0] <= b[k][1]+9 && b[k][0] <= a[k][1]+9 {
					return false
				}
			}
		}
	}
	return len(all) == 21
}

// lowers gives the box of the lower ends of a box alone.
func lowers(b sides) sides {
	made := slices.Clone(b)
	for k := range made {
		made[k][1] = made[k][0]
	}
	return made
}

// uppers gives the box of the upper ends of a box alone.
func uppers(b sides) sides {
	made := slices.Clone(b)
	for k := range made {
		made[k][0] = made[k][1]
	}
	return made
}

// wholes gives a box of as many sides that has all numbers.
func wholes(b sides) sides { return slices.Repeat(sides{{-top, top}}, len(b)) }

// TestByOneApart sees that the test above asks of tubes of one, two and three sides.
func TestByOneApart(t *testing.T) {
	var found [4]bool
	for _, u := range tubes {
		if areApart(u.all) {
			found[len(u.all[0])] = true
		}
	}
	if found != [4]bool{false, true, true, true} {
		t.Errorf("tubes of so many sides are apart: %v", found)
	}
}

// TestEnds asks with what is bad at the greatest and the least number that may be.
func TestEnds(t *testing.T) {
	still := system{[]terms{ofX}, sides{{0, 0}}}
	for _, c := range []struct {
		b, bad sides
		first  int
	}{
		{sides{{top, top}}, sides{{top, top}}, 0},
		{sides{{top, top}}, sides{{-top, top - 1}}, -1},
		{sides{{0, top - 1}}, sides{{top, top}}, -1},
		{sides{{-top, -top}}, sides{{-top, -top}}, 0},
		{sides{{-top, -top}}, sides{{1 - top, top}}, -1},
		{sides{{1 - top, 0}}, sides{{-top, -top}}, -1},
		{sides{{-top, top}}, sides{{-top, top}}, 0},
		{sides{{-top, 0}}, sides{{0, top}}, 0},
		{sides{{-top, 0}}, sides{{1, top}}, -1},
		{sides{{0, top}}, sides{{-top, -1}}, -1},
	} {
		for _, steps := range goodSteps {
			checkFirst(t, still.system(), c.b.box(), c.bad.box(), steps, c.first)
		}
	}
}

// full is a system, a box, the most steps of which Run tells no ErrFull, and a box that none of theirs has anything in common with.
type full struct {
	s     system
	b     sides
	steps int
	free  sides
}

// fulls have the first step that is beyond what may be as the first one, as later ones, and as the last one that may be asked for.
var fulls = []full{
	// By the Push, at either end.
	{system{[]terms{ofX}, sides{{0, 1}}}, sides{{top, top}}, 0, sides{{-top, top - 1}}},
	{system{[]terms{ofX}, sides{{-1, 0}}}, sides{{-top, 0}}, 0, sides{{1, top}}},
	{system{[]terms{ofX}, sides{{0, 1}}}, sides{{0, top - 1}}, 1, sides{{-9, -1}}},
	{system{[]terms{ofX}, sides{{-1, 0}}}, sides{{2 - top, 0}}, 2, sides{{1, 1}}},
	{system{[]terms{ofX}, sides{{0, 50000000}}}, sides{{1, 1}}, 19, sides{{-top, 0}}},
	{system{[]terms{ofX}, sides{{-50000001, 0}}}, sides{{0, 0}}, 19, sides{{1, top}}},
	// By the Range.
	{double, sides{{-top / 2, top/2 + 1}}, 0, sides{{top/2 + 2, top}}},
	{double, sides{{1, top / 2}}, 1, sides{{-top, 0}}},
	{double, sides{{0, 954}}, 19, sides{{500170753, top}}},
	{double, sides{{-954, 0}}, 19, sides{{1, 1}}},
	{several, sides{{-796, 236}}, 6, sides{{237, 999}}},
	// By a power that adds nothing.
	{system{[]terms{{{0, 2, 0, 0}, {2000, 1, 0, 0}}}, sides{{0, 0}}}, sides{{0, 500000}}, 2, sides{{2000001, top}}},
	// Of one unknown alone, wherever it stands.
	{system{[]terms{{{2000, 1, 0, 0}}, nil}, sides{{0, 0}, {0, 0}}}, sides{{0, 250000000}, {1, 2}}, 2, sides{{0, top}, {3, 9}}},
	{system{[]terms{nil, {{2000, 0, 1, 0}}, nil}, sides{{0, 0}, {0, 0}, {3, 4}}}, sides{{0, 0}, {-250000000, 0}, {5, 5}}, 2, sides{{0, 0}, {1, 9}, {0, 9}}},
	{system{[]terms{nil, nil, {{2000, 0, 0, 1}}}, sides{{0, 0}, {0, 0}, {0, 0}}}, sides{{0, 0}, {0, 0}, {top, top}}, 0, sides{{0, 0}, {0, 0}, {0, top - 1}}},
}

// TestFull sees that ErrFull is told from the step on that is beyond what may be, whether a box ahead of it has something in common with what is bad or none has, and of no fewer steps.
func TestFull(t *testing.T) {
	for _, f := range fulls {
		s, b := f.s.system(), f.b.box()
		for steps := range f.steps + 1 {
			checkFirst(t, s, b, b, steps, 0)
			checkFirst(t, s, b, wholes(f.b).box(), steps, 0)
			checkFirst(t, s, b, f.free.box(), steps, -1)
		}
		for steps := f.steps + 1; steps <= 20; steps++ {
			checkNot(t, s, b, b, steps, api.ErrFull)
			checkNot(t, s, b, wholes(f.b).box(), steps, api.ErrFull)
			checkNot(t, s, b, f.free.box(), steps, api.ErrFull)
		}
	}
}

// TestFullLater sees that ErrFull is told also where the first box that is there is behind some steps, and the one that is beyond what may be behind more.
func TestFullLater(t *testing.T) {
	for _, c := range []struct {
		s     system
		b     sides
		steps int
		bad   sides
		first int
	}{
		{double, sides{{1, 954}}, 19, sides{{955, 1000}}, 1},
		{double, sides{{1, 954}}, 19, sides{{500000000, top}}, 19},
		{several, sides{{-796, 236}}, 6, sides{{-2000, -1800}}, 4},
		{several, sides{{-796, 236}}, 6, sides{{-top, -25649}}, 6},
		{system{[]terms{ofX}, sides{{0, 50000000}}}, sides{{1, 1}}, 19, sides{{950000001, top}}, 19},
		{system{[]terms{ofX}, sides{{0, 50000000}}}, sides{{1, 1}}, 19, sides{{100000002, 150000001}}, 3},
	} {
		s, b, bad := c.s.system(), c.b.box(), c.bad.box()
		for steps := range 21 {
			switch {
			case steps < c.first:
				checkFirst(t, s, b, bad, steps, -1)
			case steps <= c.steps:
				checkFirst(t, s, b, bad, steps, c.first)
			default:
				checkNot(t, s, b, bad, steps, api.ErrFull)
			}
		}
	}
}

// wrongSystems are systems with a fault, and which; where several are wrong with one, what is told first.
var wrongSystems = []struct {
	s    system
	told api.Errno
}{
	// No polynomial, and too many, whatever there is of pushes.
	{system{}, api.ErrNone},
	{system{[]terms{}, sides{}}, api.ErrNone},
	{system{nil, sides{{1, 0}, {0, top + 1}}}, api.ErrNone},
	{system{make([]terms, 4), make(sides, 4)}, api.ErrFull},
	{system{make([]terms, 1000), nil}, api.ErrFull},
	{system{[]terms{{{top + 1, 0, 0, 0}}, nil, nil, ofY}, sides{{1, 0}}}, api.ErrFull},
	// Not as many pushes, whatever else is wrong.
	{system{[]terms{ofX}, nil}, api.ErrShape},
	{system{[]terms{ofX}, sides{{0, 0}, {0, 0}}}, api.ErrShape},
	{system{[]terms{ofX, ofY}, sides{{0, top + 1}}}, api.ErrShape},
	{system{[]terms{ofX, make(terms, 7), ofZ}, sides{{0, 0}, {0, 0}}}, api.ErrShape},
	{system{[]terms{ofX, ofY, ofZ}, make(sides, 4)}, api.ErrShape},
	// A polynomial, by each of its faults, wherever it stands.
	{system{[]terms{make(terms, 7)}, sides{{0, 0}}}, api.ErrFull},
	{system{[]terms{nil, nil, make(terms, 1000)}, sides{{0, 0}, {0, 0}, {0, 0}}}, api.ErrFull},
	{system{[]terms{{{top + 1, 0, 0, 0}}}, sides{{0, 0}}}, api.ErrRange},
	{system{[]terms{nil, {{1, 0, 0, 0}, {math.MinInt, 0, 0, 0}}}, sides{{0, 0}, {0, 0}}}, api.ErrRange},
	{system{[]terms{nil, nil, {{math.MaxInt, 0, 0, 0}}}, sides{{0, 0}, {0, 0}, {0, 0}}}, api.ErrRange},
	{system{[]terms{{{1, -1, 0, 0}}}, sides{{0, 0}}}, api.ErrRange},
	{system{[]terms{{{1, 4, 0, 0}}}, sides{{0, 0}}}, api.ErrRange},
	{system{[]terms{nil, {{1, 2, 2, 0}}}, sides{{0, 0}, {0, 0}}}, api.ErrRange},
	{system{[]terms{{{1, math.MaxInt, math.MaxInt, 2}}, nil, nil}, sides{{0, 0}, {0, 0}, {0, 0}}}, api.ErrRange},
	{system{[]terms{nil, nil, {{1, 0, math.MinInt, 0}}}, sides{{0, 0}, {0, 0}, {0, 0}}}, api.ErrRange},
	{system{[]terms{ofY}, sides{{0, 0}}}, api.ErrShape},
	{system{[]terms{ofX, ofZ}, sides{{0, 0}, {0, 0}}}, api.ErrShape},
	// Several polynomials: the first one's is told.
	{system{[]terms{ofZ, make(terms, 7)}, sides{{0, 0}, {0, 0}}}, api.ErrShape},
	{system{[]terms{make(terms, 7), {{top + 1, 0, 0, 0}}}, sides{{0, 0}, {0, 0}}}, api.ErrFull},
	{system{[]terms{{{1, 4, 0, 0}}, make(terms, 7)}, sides{{0, 0}, {0, 0}}}, api.ErrRange},
	// A Push, by each of its faults, wherever it stands, and behind a polynomial's.
	{system{[]terms{ofX}, sides{{1, 0}}}, api.ErrShape},
	{system{[]terms{ofX}, sides{{0, top + 1}}}, api.ErrRange},
	{system{[]terms{ofX}, sides{{math.MaxInt, math.MinInt}}}, api.ErrRange},
	{system{[]terms{ofX, ofY}, sides{{0, 0}, {0, -1}}}, api.ErrShape},
	{system{[]terms{ofX, ofY}, sides{{1, 0}, {math.MinInt, 0}}}, api.ErrShape},
	{system{[]terms{ofX, ofY, ofZ}, sides{{0, 0}, {math.MinInt, 0}, {1, 0}}}, api.ErrRange},
	{system{[]terms{ofX, make(terms, 7)}, sides{{1, 0}, {0, 0}}}, api.ErrFull},
	{system{[]terms{ofY}, sides{{0, top + 1}}}, api.ErrShape},
}

// wrongBoxes are boxes with a fault, and which.
var wrongBoxes = []struct {
	b    sides
	told api.Errno
}{
	{nil, api.ErrNone},
	{sides{}, api.ErrNone},
	{sides{{0, 1}, {0, 1}}[:0], api.ErrNone},
	{sides{{0, 1}, {0, 1}, {0, 1}, {0, 1}}, api.ErrFull},
	{sides{{1, 0}, {0, top + 1}, {0, 1}, {0, 1}}, api.ErrFull},
	{make(sides, 1000), api.ErrFull},
	{sides{{1, 0}}, api.ErrShape},
	{sides{{0, top + 1}}, api.ErrRange},
	{sides{{math.MinInt, math.MaxInt}}, api.ErrRange},
	{sides{{math.MaxInt, math.MinInt}}, api.ErrRange},
	{sides{{0, 1}, {1, 0}}, api.ErrShape},
	{sides{{-top - 1, 0}, {1, 0}}, api.ErrRange},
	{sides{{0, 1}, {1, 0}, {0, top + 1}}, api.ErrShape},
	{sides{{0, 1}, {0, 1}, {math.MinInt, 0}}, api.ErrRange},
}

// goodBoxes have nothing wrong with them, of each number of sides; of the last ones most steps are beyond what may be.
var goodBoxes = []sides{
	{{-1000, 2000}}, {{-1000, 2000}, {5, 5}}, {{-1000, 2000}, {5, 5}, {-9, -7}},
	{{top, top}}, {{-top, top}, {top, top}}, {{-top, top}, {top, top}, {-top, -top}},
}

// goodSteps and wrongSteps are how many steps may be, and may not be.
var (
	goodSteps  = []int{0, 1, 2, 19, 20}
	wrongSteps = []int{-1, -2, -20, 21, 22, 1000, top, math.MinInt, math.MinInt + 1, math.MaxInt - 1, math.MaxInt}
)

// TestSteps asks as few and as many steps as may be, and sees that one more, and one below, are told.
func TestSteps(t *testing.T) {
	s, b := drift.system(), sides{{0, 5}}.box()
	for _, c := range []struct {
		bad          sides
		atNo, atMost int
	}{
		{sides{{0, 0}}, 0, 0},
		{sides{{100, 100}}, -1, 1},
		{sides{{2065, 2065}}, -1, 20},
		{sides{{2066, 2070}}, -1, -1},
	} {
		bad := c.bad.box()
		checkNot(t, s, b, bad, -1, api.ErrRange)
		checkFirst(t, s, b, bad, 0, c.atNo)
		checkFirst(t, s, b, bad, api.MaxSteps, c.atMost)
		checkNot(t, s, b, bad, api.MaxSteps+1, api.ErrRange)
	}
}

// TestWrongSteps sees that wrong steps are told ahead of all but what is wrong with bad: whatever the system and the box, and whether all go together, or are beyond what may be.
func TestWrongSteps(t *testing.T) {
	for _, steps := range wrongSteps {
		for _, bad := range goodBoxes {
			checkWrongSteps(t, bad.box(), steps)
		}
	}
}

func checkWrongSteps(t *testing.T, bad []api.Span, steps int) {
	t.Helper()
	for _, b := range goodBoxes {
		for _, g := range goodSystems {
			checkNot(t, g.system(), b.box(), bad, steps, api.ErrRange)
		}
		for _, w := range wrongSystems {
			checkNot(t, w.s.system(), b.box(), bad, steps, api.ErrRange)
		}
	}
	for _, v := range wrongBoxes {
		checkNot(t, turn.system(), v.b.box(), bad, steps, api.ErrRange)
		checkNot(t, api.System{}, v.b.box(), bad, steps, api.ErrRange)
	}
	for _, f := range fulls {
		checkNot(t, f.s.system(), f.b.box(), bad, steps, api.ErrRange)
	}
}

// TestWrongBad sees that what is wrong with bad is told ahead of all else: of steps, of the system, of the box, of how many sides there are, and of what is beyond what may be. Of a bad of no side Clear tells ErrNone, too.
func TestWrongBad(t *testing.T) {
	for _, v := range wrongBoxes {
		for _, steps := range []int{0, 2, 20, -1, 21, math.MinInt, math.MaxInt} {
			checkWrongBad(t, v.b.box(), steps, v.told)
		}
	}
}

func checkWrongBad(t *testing.T, bad []api.Span, steps int, told api.Errno) {
	t.Helper()
	for _, b := range goodBoxes {
		for _, g := range goodSystems {
			checkNot(t, g.system(), b.box(), bad, steps, told)
		}
		for _, w := range wrongSystems {
			checkNot(t, w.s.system(), b.box(), bad, steps, told)
		}
	}
	for _, v := range wrongBoxes {
		checkNot(t, turn.system(), v.b.box(), bad, steps, told)
		checkNot(t, api.System{}, v.b.box(), bad, steps, told)
	}
	for _, f := range fulls {
		checkNot(t, f.s.system(), f.b.box(), bad, steps, told)
	}
}

// TestWrongSystem sees that what is wrong with the system is told, whatever the box, and whether bad has as many sides. Of a system of no polynomial Clear tells ErrNone, too.
func TestWrongSystem(t *testing.T) {
	for _, w := range wrongSystems {
		for i, bad := range goodBoxes {
			for j, g := range goodBoxes {
				checkNot(t, w.s.system(), g.box(), bad.box(), goodSteps[(i+j)%len(goodSteps)], w.told)
			}
			for j, v := range wrongBoxes {
				checkNot(t, w.s.system(), v.b.box(), bad.box(), goodSteps[(i+j)%len(goodSteps)], w.told)
			}
		}
	}
}

// TestWrongBox sees that what is wrong with the box is told, whether it, or bad, has as many sides as the system or not. Of a box of no side Clear tells ErrNone, too.
func TestWrongBox(t *testing.T) {
	for _, g := range goodSystems {
		for _, w := range wrongBoxes {
			for _, bad := range goodBoxes {
				for _, steps := range goodSteps {
					checkNot(t, g.system(), w.b.box(), bad.box(), steps, w.told)
				}
			}
		}
	}
}

// TestBoxShape asks with a box of too few and of too many sides, whether bad has as many as the system, as the box, or neither.
func TestBoxShape(t *testing.T) {
	for _, g := range goodSystems {
		for _, b := range goodBoxes {
			if len(b) == len(g.next) {
				continue
			}
			for _, bad := range goodBoxes {
				for _, steps := range goodSteps {
					checkNot(t, g.system(), b.box(), bad.box(), steps, api.ErrShape)
				}
			}
		}
	}
}

// TestBadShape asks with a bad of too few and of too many sides: also where the sides that are there have something in common, or nothing.
func TestBadShape(t *testing.T) {
	for _, u := range tubes {
		s, b := u.s.system(), u.all[0].box()
		for steps := range u.all {
			for _, m := range u.meet {
				bad := m.bad.box()
				checkNot(t, s, b, slices.Concat(bad, bad, bad)[:len(bad)%3+1], steps, api.ErrShape)
				checkNot(t, s, b, slices.Concat(bad, bad, bad)[:(len(bad)+1)%3+1], steps, api.ErrShape)
			}
		}
	}
}

// TestBadShapeFull sees that ErrFull is told ahead of a bad that has not as many sides, from the step on that is beyond what may be.
func TestBadShapeFull(t *testing.T) {
	for _, f := range fulls {
		for _, bad := range goodBoxes {
			if len(bad) == len(f.b) {
				continue
			}
			for steps := range 21 {
				told := api.ErrShape
				if steps > f.steps {
					told = api.ErrFull
				}
				checkNot(t, f.s.system(), f.b.box(), bad.box(), steps, told)
			}
		}
	}
}

// common tells whether two boxes have something in common: no side lies all on one side of the other.
func common(a, b []api.Span) bool {
	for k, side := range a {
		if side.Hi < b[k].Lo || b[k].Hi < side.Lo {
			return false
		}
	}
	return true
}

// meantFirst is what the chapter says, by what the tests of chapters 10 and 13 hold: the first step that is there, below 0 where none is, and what is wrong.
func meantFirst(s api.System, b, bad []api.Span, steps int) (int, api.Errno) {
	if err := box.Check(bad); err != nil {
		return 0, plain.Told(err)
	}
	all, err := flow.Run(s, b, steps)
	if err != nil {
		return 0, plain.Told(err)
	}
	if len(bad) != len(b) {
		return 0, api.ErrShape
	}
	for at, over := range all {
		if common(over, bad) {
			return at, api.OK
		}
	}
	return -1, api.OK
}

// checkMeant holds both calls against what is meant.
func checkMeant(t *testing.T, s api.System, b, bad []api.Span, steps int) {
	t.Helper()
	first, told := meantFirst(s, b, bad, steps)
	if told != api.OK {
		checkNot(t, s, b, bad, steps, told)
		return
	}
	checkFirst(t, s, b, bad, steps, first)
}

// lists gives all lists of up to some things out of all.
func lists[T any](all []T, upTo int) [][]T {
	made, last := [][]T{nil}, [][]T{nil}
	for range upTo {
		var next [][]T
		for _, l := range last {
			for _, one := range all {
				next = append(next, append(slices.Clone(l), one))
			}
		}
		made, last = append(made, next...), next
	}
	return made
}

// edgeForms are polynomials of up to three unknowns, near and far.
var edgeForms = []terms{
	nil, {{7, 0, 0, 0}}, ofX, {{-333, 0, 1, 0}}, {{-333, 1, 0, 1}, {1, 0, 2, 0}}, {{500, 1, 0, 0}, {-far, 0, 0, 0}},
	{{2000, 1, 0, 0}}, {{top, 0, 1, 0}}, {{1, 0, 0, 0}, {1, 4, 0, 0}},
}

// edgeSystems gives all systems of up to three of these, each with other pushes.
func edgeSystems() []api.System {
	pushes := sides{{0, 0}, {-9, 4}, {-top, top}, {3, 3}, {top - 5, top}, {-top, -top + 5}, {2, 1}}
	var forms [][]api.Term
	for _, l := range edgeForms {
		forms = append(forms, l.form())
	}
	var all []api.System
	for i, next := range lists(forms, 3) {
		s := api.System{Next: next}
		for j := range next {
			// As all pushes with all polynomials would be many, others come each time; the last one is wrong, and comes seldom.
			at := (i*(j+1) + i/7 + j) % len(pushes)
			if at == len(pushes)-1 && i%3 > 0 {
				at = j
			}
			s.Push = append(s.Push, pushes[at:at+1].box()...)
		}
		all = append(all, s)
	}
	return all
}

// TestAllOfEdges goes over all such systems, over boxes, and with bads, whose sides are below 0, above it, across it, of one number, and wrong.
func TestAllOfEdges(t *testing.T) {
	over := lists(sides{{-3000, -1000}, {-5, 7}, {1733, 1733}, {0, top}, {1, 0}}.box(), 3)
	bads := lists(sides{{-5000, -1001}, {-top, top}, {7, 20}, {-9, 4}, {2000, top}, {top + 1, 0}}.box(), 3)
	steps := []int{0, 1, 2, 3, 20, 0, 1, 2, 3, 20, math.MinInt, 21}
	for i, s := range edgeSystems() {
		for j, b := range over {
			// Most boxes have other sides than a system, and then all steps tell the same.
			if len(b) != len(s.Next) && (i+j)%7 > 0 {
				continue
			}
			for k := range 3 {
				bad := bads[(i*31+j*7+k*59)%len(bads)]
				// Most of them have three sides, so those of too many are cut off, but for some.
				if len(bad) > len(b) && (i+j+k)%5 > 0 {
					bad = bad[:len(b)]
				}
				checkMeant(t, s, b, bad, steps[(i+j+k)%len(steps)])
			}
		}
	}
}

// TestAllOfFar goes over all numbers at which something turns, as steps, as By, as times, and as ends of the box, of bad and of a Push.
func TestAllOfFar(t *testing.T) {
	edges := []int{math.MinInt, math.MinInt + 1, -top - 1, -top, 1 - top, -far, -1, 0, 1, 3, 4, 20, 21, far, top - 1, top, top + 1, math.MaxInt}
	for _, n := range edges {
		for _, m := range edges {
			for _, s := range []api.System{
				system{[]terms{{{n, 1, 0, 0}}}, sides{{0, 0}}}.system(),
				system{[]terms{{{5, m, 0, 0}}}, sides{{0, 0}}}.system(),
				system{[]terms{{{500, 1, 0, 0}}}, sides{{n, m}}}.system(),
				drift.system(),
				none.system(),
			} {
				checkMeant(t, s, sides{{n, m}}.box(), sides{{m, m}}.box(), 2)
				checkMeant(t, s, sides{{m, m}}.box(), sides{{n, m}}.box(), 1)
				checkMeant(t, s, sides{{m, m}}.box(), sides{{3, 300}}.box(), n)
				checkMeant(t, s, sides{{-5, 5}}.box(), sides{{m, m}}.box(), n)
				checkMeant(t, s, sides{{-5, 5}}.box(), sides{{n, m}}.box(), m)
			}
		}
	}
}

// TestClearAsWhen holds the two calls against each other: Clear is true just where When tells ErrNone though nothing is wrong, and tells what is wrong as When does, also where that is ErrNone.
func TestClearAsWhen(t *testing.T) {
	over := lists(sides{{-5, 7}, {1733, 1733}}.box(), 3)
	var there, free, wrong, wrongNone int
	for i, s := range edgeSystems() {
		for j, b := range over {
			bad := slices.Repeat(sides{{8 - i%9, 20}}.box(), (len(b)+(i+j)%7/6)%4)
			first, whenErr := safe.When(s, b, bad, 3)
			is, clearErr := safe.Clear(s, b, bad, 3)
			when, told := plain.Told(whenErr), plain.Told(clearErr)
			_, fault := meantFirst(s, b, bad, 3)
			same := false
			switch {
			case fault != api.OK:
				same = !is && first == 0 && when == fault && told == fault
				wrong++
				if fault == api.ErrNone {
					wrongNone++
				}
			case when == api.ErrNone:
				same = is && first == 0 && told == api.OK
				free++
			default:
				same = !is && when == api.OK && told == api.OK
				there++
			}
			if !same {
				t.Errorf("of %v, %v and %v When tells %d, %v, and Clear %v, %v", s, b, bad, first, whenErr, is, clearErr)
			}
		}
	}
	if there == 0 || free == 0 || wrong == wrongNone || wrongNone == 0 {
		t.Errorf("there were %d that are there, %d that are not, and %d that are wrong, of which %d by ErrNone", there, free, wrong, wrongNone)
	}
}

// The sides of boxes near enough for Path, and of what is bad.
var (
	places = sides{{-1500, -999}, {-7, 0}, {-800, 733}, {0, 99}, {234, 234}, {501, 1000}}.box()
	spots  = sides{{-top, -1100}, {-top, top}, {-300, -20}, {0, 2}, {7, 7}, {40, 240}, {1001, top}}.box()
)

// outcomes are how often something was never there, was there at once, and behind some steps, and how many points of paths were there.
type outcomes struct{ never, atOnce, later, points int }

// TestNeverMet sees, of boxes of each number of sides, that no point of a path out of a box is in what is bad where Clear is true, nor at a step ahead of the one that When tells.
func TestNeverMet(t *testing.T) {
	bads := lists(spots, 3)
	var found [4]outcomes
	for i, g := range goodSystems {
		for j, b := range lists(places, 3) {
			if len(b) != len(g.next) {
				continue
			}
			for k, bad := range bads {
				// All of them with all boxes would be many.
				if len(bad) == len(b) && (len(b) < 3 || (i+j+k)%29 == 0) {
					neverMet(t, g.system(), b, bad, []int{3, 20, 1, 7}[(i+j+k)%4], &found[len(b)])
				}
			}
		}
	}
	for many, f := range found[1:] {
		if f.never == 0 || f.atOnce == 0 || f.later == 0 || f.points == 0 {
			t.Errorf("of %d sides there were %+v", many+1, f)
		}
	}
}

func neverMet(t *testing.T, s api.System, b, bad []api.Span, steps int, found *outcomes) {
	t.Helper()
	is, err := safe.Clear(s, b, bad, steps)
	if err != nil {
		return
	}
	first, err := safe.When(s, b, bad, steps)
	switch {
	case is:
		first = steps + 1
		found.never++
	case err != nil:
		t.Errorf("When(%v, %v, %v, %d) tells %v, and it is not clear", s, b, bad, steps, err)
	case first == 0:
		found.atOnce++
	default:
		found.later++
	}
	for way := range 3 {
		for at, point := range pathOutOf(s, b, steps, way) {
			if !has(bad, point) {
				continue
			}
			found.points++
			if at < first {
				t.Errorf("of %v, %v and %v %v is there at step %d, and it is told to be clear ahead of %d", s, b, bad, point, at, first)
			}
		}
	}
}

// pathOutOf gives a path out of a box, from its ends or from inside, with pushes at the ends of their spans or inside, as far as Path goes.
func pathOutOf(s api.System, b []api.Span, steps, way int) [][]int {
	x, push := make([]int, len(b)), make([][]int, steps)
	for k, side := range b {
		x[k] = partOf(side, way+k)
	}
	for at := range push {
		for k, span := range s.Push {
			push[at] = append(push[at], partOf(span, way+k+at*(way+1)))
		}
	}
	for {
		path, err := flow.Path(s, x, push)
		if err == nil || len(push) == 0 {
			return path
		}
		push = push[:len(push)-1]
	}
}

// partOf gives one end of a span, the other one, or a number inside, by whatever pick picks.
func partOf(s api.Span, pick int) int { return []int{s.Lo, s.Hi, s.Lo + (s.Hi-s.Lo)/3}[pick%3] }

// has tells whether a box has numbers.
func has(b []api.Span, x []int) bool {
	for k, n := range x {
		if n < b[k].Lo || n > b[k].Hi {
			return false
		}
	}
	return len(x) == len(b)
}

// TestShared asks with one list at several places: that makes no difference.
func TestShared(t *testing.T) {
	f := terms{{100, 1, 0, 0}, {-100, 0, 1, 0}}.form()
	spans := sides{{-5, 5}, {1, 2}}.box()
	s := api.System{Next: [][]api.Term{f, f}, Push: spans}
	for range 3 {
		for steps := range 21 {
			for _, c := range []struct {
				b, bad []api.Span
				first  int
			}{
				{spans, spans, 0},
				{sides{{6, 6}, {9, 9}}.box(), spans, 1},
				{spans, sides{{6, 6}, {3, 3}}.box(), 1},
				{spans, sides{{9, 9}, {1, 2}}.box(), -1},
			} {
				want := c.first
				if want > steps {
					want = -1
				}
				first, err := safe.When(s, c.b, c.bad, steps)
				is, clearErr := safe.Clear(s, c.b, c.bad, steps)
				if first != max(want, 0) || (err == nil) != (want >= 0) || is != (want < 0) || clearErr != nil {
					t.Errorf("of %v, %v, %v and %d there is %d, %v and %v, %v; want %d", s, c.b, c.bad, steps, first, err, is, clearErr, want)
				}
			}
		}
	}
	if want := (sides{{-5, 5}, {1, 2}}).box(); !slices.Equal(spans, want) {
		t.Errorf("what was handed in as %v is now %v", want, spans)
	}
}

// TestAgain asks the same again, behind other calls: what is told hangs on what is handed in alone.
func TestAgain(t *testing.T) {
	s, b := turn.system(), sides{{1000, 1000}, {-1000, -1000}}.box()
	bad := sides{{0, 200}, {-1200, -1000}}.box()
	for range 3 {
		checkFirst(t, s, b, bad, 3, 3)
		checkFirst(t, s, b, bad, 2, -1)
		checkFirst(t, s, bad, b, 20, -1)
		checkFirst(t, s, bad, bad, 20, 0)
		checkNot(t, s, b, bad, 21, api.ErrRange)
		checkNot(t, s, b, bad[:1], 3, api.ErrShape)
		checkNot(t, s, b[:1], bad, 3, api.ErrShape)
		checkNot(t, s, b, nil, 3, api.ErrNone)
		checkNot(t, s, nil, bad, 3, api.ErrNone)
	}
}

// timesThatMayBe gives how often three unknowns may stand in a Term.
func timesThatMayBe() [][3]int {
	var l [][3]int
	for _, times := range lists([]int{0, 1, 2, 3}, 3) {
		if len(times) == 3 && times[0]+times[1]+times[2] <= 3 {
			l = append(l, [3]int(times))
		}
	}
	return l
}

// madeUp is a system of so many polynomials, out of some numbers and whatever pick picks.
func madeUp(many int, pick uint32, numbers []int) api.System {
	good := timesThatMayBe()
	s := api.System{Next: make([][]api.Term, many), Push: make([]api.Span, many)}
	rest := pick
	for i := range s.Next {
		s.Next[i] = make([]api.Term, rest%8)
		for j := range s.Next[i] {
			rest = rest/3 + pick + uint32(i+j)
			times := good[int(rest)%len(good)]
			// Most Terms would have unknowns that are not there, were they not left out here.
			for k := many; k < len(times) && rest%31 > 0; k++ {
				times[k] = 0
			}
			s.Next[i][j] = api.Term{By: numbers[(i+j)%len(numbers)], Times: times}
		}
		lo, hi := numbers[(i+1)%len(numbers)], numbers[(2*i+2)%len(numbers)]
		s.Push[i] = api.Span{Lo: min(lo, hi), Hi: max(lo, hi)}
	}
	return s
}

// FuzzSafe holds systems of up to four unknowns, over any box, with any bad and any number of steps, against what is meant.
func FuzzSafe(f *testing.F) {
	f.Add(uint8(2), uint8(2), uint8(2), uint32(1), 5, -500, 250, 7, -4000, -3998, -3551, -551)
	f.Add(uint8(3), uint8(3), uint8(3), uint32(987654321), 20, 1, -2, 3, -1000, 2000, 5, -7)
	f.Add(uint8(1), uint8(1), uint8(1), uint32(15), 19, 300, -200, 100, 40, -30, 20, 10)
	f.Add(uint8(4), uint8(0), uint8(7), uint32(0), math.MinInt, math.MinInt, math.MaxInt, 0, math.MaxInt, math.MinInt, 0, 1)
	f.Fuzz(func(t *testing.T, many, wide, sort uint8, pick uint32, steps, a, b, c, p, q, r, s int) {
		for _, bound := range []int{math.MaxInt, top + 2, far + 2, 700} {
			// Most ints are none that may be, and most products are beyond it, so they are brought near as well.
			numbers := []int{a % bound, b % bound, c % bound, p % bound, q % bound, r % bound, s % bound}
			made := madeUp(int(many%5), pick, numbers)
			for _, sides := range [][2]int{{int(wide % 5), int(sort % 5)}, {int(many % 5), int(sort % 5)}, {int(many % 5), int(many % 5)}} {
				over, bad := boxOf(sides[0], numbers[3:]), boxOf(sides[1], numbers[:5])
				checkMeant(t, made, over, bad, steps)
				checkMeant(t, made, over, bad, steps%23)
			}
		}
	})
}

// boxOf is a box of so many sides, between numbers beside each other.
func boxOf(many int, numbers []int) []api.Span {
	b := make([]api.Span, many)
	for i := range b {
		lo, hi := numbers[i%len(numbers)], numbers[(i+1)%len(numbers)]
		b[i] = api.Span{Lo: min(lo, hi), Hi: max(lo, hi)}
	}
	return b
}
