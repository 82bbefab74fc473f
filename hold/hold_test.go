package hold_test

import (
	"math"
	"slices"
	"testing"

	"spanmeadow/api"
	"spanmeadow/flow"
	"spanmeadow/hold"
	"spanmeadow/plain"
	"spanmeadow/step"
)

// top is the greatest number that may be.
const top = api.MaxNumber

// far is how far from 0 the numbers are of which Path tells what is next.
const far = 20 * api.One

// behind is what is laid behind a list's length, to tell whether it is read or written.
const behind = 4711

// terms of a polynomial: by, and how often each unknown.
type terms [][4]int

// form of these terms; of none nil stays nil, so that it is asked too.
func (l terms) form() []api.Term {
	if l == nil {
		return nil
	}
	f := make([]api.Term, len(l))
	for i, t := range l {
		f[i] = api.Term{By: t[0], Times: [3]int(t[1:])}
	}
	return f
}

// sides of a box, or pushes, by their ends.
type sides [][2]int

// box of these sides, likewise.
func (l sides) box() []api.Span {
	if l == nil {
		return nil
	}
	b := make([]api.Span, len(l))
	for i, ends := range l {
		b[i] = api.Span{Lo: ends[0], Hi: ends[1]}
	}
	return b
}

// system of polynomials and pushes.
type system struct {
	next []terms
	push sides
}

func (s system) system() api.System {
	made := api.System{Push: s.push.box()}
	if s.next != nil {
		made.Next = make([][]api.Term, len(s.next))
	}
	for i, l := range s.next {
		made.Next[i] = l.form()
	}
	return made
}

// handed is a list for a call, with memory behind its length; unchanged tells whether all of it is as it was.
func handed[T comparable](l []T, after T) (list []T, unchanged func() bool) {
	if l == nil {
		return nil, func() bool { return true }
	}
	whole := append(slices.Clone(l), after, after)
	before := slices.Clone(whole)
	return whole[:len(l)], func() bool { return slices.Equal(whole, before) }
}

// handedLists is likewise a list of lists, with memory behind it and behind each of them.
func handedLists[T comparable](l [][]T, after T) (list [][]T, unchanged func() bool) {
	if l == nil {
		return nil, func() bool { return true }
	}
	whole, asks := make([][]T, 0, len(l)+2), []func() bool{}
	for _, one := range l {
		inner, same := handed(one, after)
		whole, asks = append(whole, inner), append(asks, same)
	}
	whole = append(whole, []T{after}, nil)
	before := slices.Clone(whole)
	return whole[:len(l)], func() bool {
		return slices.EqualFunc(whole, before, sameMemory) &&
			!slices.ContainsFunc(asks, func(same func() bool) bool { return !same() })
	}
}

// sameMemory tells whether two lists are one.
func sameMemory[T any](a, b []T) bool {
	return len(a) == len(b) && cap(a) == cap(b) && (cap(a) == 0 || &a[:1][0] == &b[:1][0])
}

func handedBox(b []api.Span) ([]api.Span, func() bool) {
	return handed(b, api.Span{Lo: behind, Hi: -behind})
}

// handedSystem is a system for a call, with memory behind each of its lists.
func handedSystem(s api.System) (api.System, func() bool) {
	next, nextSame := handedLists(s.Next, api.Term{By: math.MinInt, Times: [3]int{behind, -behind, behind}})
	push, pushSame := handedBox(s.Push)
	return api.System{Next: next, Push: push}, func() bool { return nextSame() && pushSame() }
}

// spoil writes over all of a list's memory.
func spoil[T any](l []T, by T) {
	all := l[:cap(l)]
	for i := range all {
		all[i] = by
	}
}

func checkIs(t *testing.T, s api.System, b []api.Span, want bool, told api.Errno) {
	t.Helper()
	list, listSame := handedSystem(s)
	over, overSame := handedBox(b)
	got, err := hold.Is(list, over)
	if got != want || plain.Told(err) != told {
		t.Errorf("Is(%v, %v) = %v, %v; want %v, %v", s, b, got, err, want, told)
	}
	if !listSame() || !overSame() {
		t.Errorf("Is(%v, %v) changed what it was handed", s, b)
	}
}

func checkGrow(t *testing.T, s api.System, b []api.Span, by, most int, want []api.Span, told api.Errno) {
	t.Helper()
	list, listSame := handedSystem(s)
	over, overSame := handedBox(b)
	got, err := hold.Grow(list, over, by, most)
	if !slices.Equal(got, want) || plain.Told(err) != told {
		t.Errorf("Grow(%v, %v, %d, %d) = %v, %v; want %v, %v", s, b, by, most, got, err, want, told)
	}
	if !listSame() || !overSame() {
		t.Errorf("Grow(%v, %v, %d, %d) changed what it was handed", s, b, by, most)
	}
	spoil(got, api.Span{Lo: -behind, Hi: behind})
	if !listSame() || !overSame() {
		t.Errorf("Grow(%v, %v, %d, %d) told what shares memory with what it was handed", s, b, by, most)
	}
}

// The polynomials and systems that several tests take.
var (
	ofX = terms{{1000, 1, 0, 0}}
	ofY = terms{{1000, 0, 1, 0}}
	ofZ = terms{{1000, 0, 0, 1}}

	none    = system{[]terms{nil}, sides{{-30, 10}}}
	half    = system{[]terms{{{500, 1, 0, 0}}}, sides{{-10, 20}}}
	back    = system{[]terms{{{-500, 1, 0, 0}}}, sides{{3, 3}}}
	third   = system{[]terms{{{333, 1, 0, 0}}}, sides{{0, 0}}}
	little  = system{[]terms{{{-1, 1, 0, 0}}}, sides{{-7, 7}}}
	square  = system{[]terms{{{1000, 2, 0, 0}, {-750, 0, 0, 0}}}, sides{{-1, 1}}}
	several = system{[]terms{{{371, 3, 0, 0}, {-437, 2, 0, 0}, {-500, 0, 0, 0}}}, sides{{18, 26}}}
	many    = system{[]terms{{{200, 3, 0, 0}, {-100, 2, 0, 0}, {300, 1, 0, 0}, {50, 0, 0, 0}}}, sides{{-4, 0}}}
	slow    = system{[]terms{{{900, 1, 0, 0}}}, sides{{-50, 50}}}
	drift   = system{[]terms{ofX}, sides{{1, 1}}}
	double  = system{[]terms{{{2000, 1, 0, 0}}}, sides{{0, 0}}}
	empty   = system{[]terms{nil, {}}, sides{{-1, 22}, {16, 18}}}
	turn    = system{[]terms{{{900, 1, 0, 0}, {200, 0, 1, 0}}, {{-200, 1, 0, 0}, {900, 0, 1, 0}}}, sides{{-5, 5}, {10, 10}}}
	calm    = system{[]terms{{{500, 1, 0, 0}, {200, 0, 1, 0}}, {{-200, 1, 0, 0}, {500, 0, 1, 0}}}, sides{{-5, 5}, {10, 10}}}
	swap    = system{[]terms{ofY, ofX}, sides{{1, 1}, {20, 20}}}
	mixed   = system{[]terms{{}, {{1000, 1, 1, 0}, {7, 0, 0, 0}}}, sides{{-2, 3}, {0, 1}}}
	hush    = system{[]terms{nil, nil, nil}, sides{{-5, 5}, {7, 7}, {-9, -8}}}
	cycle   = system{[]terms{ofY, ofZ, {{1000, 1, 1, 1}}}, sides{{-1, 1}, {0, 0}, {2, 3}}}
	three   = system{[]terms{nil, {{1000, 1, 0, 1}}, {{7, 0, 0, 0}, {250, 0, 1, 0}, {-125, 2, 0, 0}}}, sides{{5, 6}, {-1, 0}, {0, 1}}}
	chain   = system{[]terms{{{500, 0, 1, 0}}, {{500, 0, 0, 1}, {3, 0, 0, 0}}, {{-250, 1, 0, 0}, {100, 0, 1, 1}}}, sides{{-1, 1}, {0, 0}, {20, 40}}}
	ring    = system{[]terms{ofZ, ofX, ofY}, sides{{0, 0}, {0, 0}, {0, 0}}}
)

// goodSystems have nothing wrong with them.
var goodSystems = []system{none, half, back, third, little, square, several, many, slow, drift, double, empty, turn, calm, swap, mixed, hush, cycle, three, chain, ring}

// asked is a system, a box, and whether it holds.
type asked struct {
	s  system
	b  sides
	is bool
}

// asks were reckoned apart, in exact numbers.
var asks = []asked{
	// Of one unknown: far within, with one end in common, beyond one end, beyond both, and all of it elsewhere.
	{none, sides{{-1000, 1000}}, true},
	{none, sides{{-30, 1000}}, true},
	{none, sides{{-1000, 10}}, true},
	{none, sides{{-30, 10}}, true},
	{none, sides{{-20, 1000}}, false},
	{none, sides{{-1000, 0}}, false},
	{none, sides{{0, 0}}, false},
	{none, sides{{-100, -31}}, false},
	{none, sides{{11, 100}}, false},
	{none, sides{{-top, top}}, true},
	{half, sides{{-500, 500}}, true},
	{half, sides{{-3000, 41}}, true},
	{half, sides{{21, 3000}}, false},
	{half, sides{{-1000, -20}}, false},
	{half, sides{{-top, top}}, true},
	{back, sides{{-1000, 2006}}, true},
	{back, sides{{-1000, 2007}}, false},
	{third, sides{{0, 0}}, true},
	{third, sides{{1, 1}}, false},
	{third, sides{{-1, 0}}, true},
	{square, sides{{-1000, 500}}, true},
	{square, sides{{-751, 600}}, true},
	{square, sides{{-750, 600}}, false},
	{square, sides{{-800, 1499}}, true},
	{square, sides{{-800, 1500}}, false},
	{several, sides{{-700, 0}}, false},
	{many, sides{{-1000, 1000}}, true},
	{many, sides{{-2000, 1000}}, false},
	{double, sides{{0, 0}}, true},
	{double, sides{{0, 1}}, false},
	{drift, sides{{-5, 5}}, false},
	{drift, sides{{1 - top, top - 1}}, false},
	// Of two, and of three: all within, and one of them beyond, wherever it stands.
	{empty, sides{{-5, 50}, {0, 99}}, true},
	{empty, sides{{-5, 50}, {17, 99}}, false},
	{empty, sides{{0, 50}, {0, 99}}, false},
	{calm, sides{{-900, 900}, {-700, 700}}, true},
	{calm, sides{{-900, 900}, {-300, 300}}, false},
	{calm, sides{{-100, 100}, {-700, 700}}, false},
	{turn, sides{{-900, 900}, {-900, 900}}, false},
	{swap, sides{{-900, 900}, {-900, 900}}, false},
	{mixed, sides{{-900, 900}, {-80, 80}}, true},
	{mixed, sides{{-900, 900}, {-79, 79}}, false},
	{hush, sides{{-50, 50}, {7, 8}, {-10, 0}}, true},
	{hush, sides{{-50, 50}, {8, 8}, {-10, 0}}, false},
	{cycle, sides{{-81, 81}, {-80, 80}, {-80, 80}}, true},
	{three, sides{{-100, 100}, {-100, 100}, {-20, 100}}, true},
	{three, sides{{-100, 100}, {-10, 100}, {-100, 100}}, false},
	{chain, sides{{-100, 100}, {-100, 100}, {-100, 100}}, true},
	{chain, sides{{-100, 100}, {-100, 40}, {-100, 100}}, false},
	{chain, sides{{0, 100}, {-100, 100}, {-100, 100}}, false},
	{ring, sides{{-3, 3}, {-3, 3}, {-3, 3}}, true},
	{ring, sides{{-3, 3}, {-3, 2}, {-3, 3}}, false},
	{ring, sides{{-3, 4}, {-3, 3}, {-3, 3}}, false},
}

func TestIs(t *testing.T) {
	for _, a := range asks {
		checkIs(t, a.s.system(), a.b.box(), a.is, api.OK)
	}
}

// leasts are boxes of which what may be next is just the same, found and reckoned apart.
var leasts = []asked{
	{none, sides{{-30, 10}}, true},
	{half, sides{{-20, 40}}, true},
	{back, sides{{1, 3}}, true},
	{little, sides{{-8, 8}}, true},
	{square, sides{{-615, -370}}, true},
	{slow, sides{{-500, 500}}, true},
	{empty, sides{{-1, 22}, {16, 18}}, true},
	{calm, sides{{-6, 20}, {12, 24}}, true},
	{mixed, sides{{-2, 3}, {6, 9}}, true},
	{hush, sides{{-5, 5}, {7, 7}, {-9, -8}}, true},
	{cycle, sides{{1, 5}, {2, 4}, {2, 4}}, true},
	{three, sides{{5, 6}, {-1, 1}, {5, 9}}, true},
	{chain, sides{{4, 13}, {11, 23}, {16, 40}}, true},
	{ring, sides{{5, 9}, {5, 9}, {5, 9}}, true},
}

// TestIsByOne sees that ends in common count as within, and that a box that misses it by a thousandth, at one end of one side, does not hold.
func TestIsByOne(t *testing.T) {
	for _, a := range leasts {
		checkIs(t, a.s.system(), a.b.box(), a.is, api.OK)
		for k, side := range a.b {
			for end, inward := range [2]int{1, -1} {
				// A side of one number has no end to go inward.
				if side[0] == side[1] {
					continue
				}
				near := slices.Clone(a.b)
				near[k][end] += inward
				checkIs(t, a.s.system(), near.box(), false, api.OK)
				checkMissesByOne(t, a.s.system(), near.box(), k, end)
			}
		}
	}
}

// checkMissesByOne sees that what may be next goes beyond a box at that end of that side alone, by just one.
func checkMissesByOne(t *testing.T, s api.System, b []api.Span, side, end int) {
	t.Helper()
	next, err := step.Of(s, b)
	if err != nil {
		t.Fatalf("Of(%v, %v) tells %v", s, b, err)
	}
	for k := range b {
		for e, beyond := range [2]int{b[k].Lo - next[k].Lo, next[k].Hi - b[k].Hi} {
			if at := k == side && e == end; at && beyond != 1 || !at && beyond > 0 {
				t.Errorf("Of(%v, %v) = %v: beyond by %d at end %d of side %d", s, b, next, beyond, e, k)
			}
		}
	}
}

// grew is a system, by how much, and the boxes behind no time, one, two and so on, up to the first that holds.
type grew struct {
	s   system
	by  int
	all []sides
}

// grows were reckoned apart, in exact numbers.
var grows = []grew{
	// Of one unknown: of no Term, of one, of several; boxes below 0, above it, across it, and of one number; that hold at once, behind one time, and behind several.
	{none, 0, []sides{{{-30, 10}}}},
	{none, top, []sides{{{-30, 10}}}},
	{none, 0, []sides{{{5, 7}}, {{-30, 10}}}},
	{none, 1, []sides{{{5, 7}}, {{-31, 11}}}},
	{none, 16, []sides{{{5, 7}}, {{-46, 26}}}},
	{none, top - 30, []sides{{{5, 7}}, {{-top, top - 20}}}},
	{half, 0, []sides{{{0, 0}}, {{-10, 20}}, {{-15, 30}}, {{-18, 35}}, {{-19, 38}}, {{-20, 39}}, {{-20, 40}}}},
	{half, 1, []sides{{{0, 0}}, {{-11, 21}}, {{-17, 32}}, {{-20, 37}}, {{-21, 40}}}},
	{half, 16, []sides{{{0, 0}}, {{-26, 36}}, {{-42, 54}}}},
	{half, 100, []sides{{{0, 0}}, {{-110, 120}}}},
	{half, top - 20, []sides{{{0, 0}}, {{10 - top, top}}}},
	{half, 16, []sides{{{1000, 3000}}, {{474, 3016}}, {{211, 3032}}, {{79, 3048}}, {{13, 3064}}, {{-20, 3080}}}},
	{half, 0, []sides{
		{{-3000, -1000}}, {{-3000, -480}}, {{-3000, -220}}, {{-3000, -90}}, {{-3000, -25}}, {{-3000, 8}}, {{-3000, 24}}, {{-3000, 32}},
		{{-3000, 36}}, {{-3000, 38}}, {{-3000, 39}}, {{-3000, 40}},
	}},
	{back, 7, []sides{{{-1000, 2000}}}},
	{back, 0, []sides{{{2000, 2000}}, {{-997, 2000}}}},
	{back, 100, []sides{{{2000, 2000}}, {{-1097, 2100}}}},
	{third, 0, []sides{{{1000, 1000}}, {{333, 1000}}, {{110, 1000}}, {{36, 1000}}, {{11, 1000}}, {{3, 1000}}, {{0, 1000}}}},
	{third, 1, []sides{{{1000, 1000}}, {{332, 1001}}, {{109, 1002}}, {{35, 1003}}, {{10, 1004}}, {{2, 1005}}, {{-1, 1006}}}},
	{third, 0, []sides{{{5, 9}}, {{1, 9}}, {{0, 9}}}},
	{little, 0, []sides{{{1, 1}}, {{-8, 7}}, {{-8, 8}}}},
	{little, 1, []sides{{{1, 1}}, {{-9, 8}}}},
	{square, 1, []sides{{{-800, 0}}}},
	{square, 0, []sides{{{0, 0}}, {{-751, 0}}}},
	{square, 16, []sides{{{0, 0}}, {{-767, 16}}}},
	{many, 5, []sides{{{-900, 1000}}}},
	{many, 0, []sides{{{0, 0}}, {{0, 50}}, {{0, 66}}, {{0, 71}}, {{0, 73}}}},
	{many, 1, []sides{{{0, 0}}, {{-1, 51}}, {{-2, 68}}, {{-3, 73}}}},
	{many, 0, []sides{{{1000, 1000}}, {{446, 1000}}, {{96, 1000}}, {{-26, 1000}}, {{-63, 1000}}, {{-74, 1000}}, {{-78, 1000}}, {{-79, 1000}}}},
	{many, 30, []sides{{{1000, 1000}}, {{416, 1030}}, {{47, 1060}}, {{-83, 1090}}, {{-129, 1120}}}},
	{slow, 16, []sides{
		{{0, 0}}, {{-66, 66}}, {{-126, 126}}, {{-180, 180}}, {{-228, 228}}, {{-272, 272}}, {{-311, 311}}, {{-346, 346}}, {{-378, 378}},
		{{-407, 407}}, {{-433, 433}}, {{-456, 456}}, {{-477, 477}}, {{-496, 496}}, {{-513, 513}},
	}},
	{slow, 100, []sides{{{300, 400}}, {{120, 510}}, {{-42, 610}}, {{-188, 710}}, {{-320, 810}}, {{-438, 910}}, {{-545, 1010}}}},
	// Of two, and of three: also where one side alone leaves the box, and all are made wider.
	{empty, 0, []sides{{{5, 6}, {17, 17}}, {{-1, 22}, {16, 18}}}},
	{empty, 16, []sides{{{5, 6}, {17, 17}}, {{-17, 38}, {0, 34}}}},
	{empty, 3, []sides{{{5, 6}, {0, 99}}, {{-4, 25}, {-3, 102}}}},
	{calm, 0, []sides{
		{{0, 0}, {0, 0}}, {{-5, 5}, {0, 10}}, {{-8, 10}, {0, 16}}, {{-9, 14}, {0, 20}}, {{-10, 16}, {0, 22}}, {{-10, 18}, {0, 23}},
		{{-10, 19}, {0, 24}}, {{-10, 20}, {0, 24}},
	}},
	{calm, 1, []sides{
		{{0, 0}, {0, 0}}, {{-6, 6}, {-1, 11}}, {{-10, 12}, {-2, 19}}, {{-12, 16}, {-3, 23}}, {{-13, 19}, {-4, 26}}, {{-14, 22}, {-5, 27}},
	}},
	{calm, 0, []sides{
		{{1000, 2000}, {-1000, 1000}}, {{295, 2000}, {-1000, 1000}}, {{-58, 2000}, {-1000, 1000}}, {{-234, 2000}, {-1000, 1000}},
		{{-322, 2000}, {-1000, 1000}}, {{-366, 2000}, {-1000, 1000}}, {{-388, 2000}, {-1000, 1000}}, {{-399, 2000}, {-1000, 1000}},
		{{-405, 2000}, {-1000, 1000}}, {{-408, 2000}, {-1000, 1000}}, {{-409, 2000}, {-1000, 1000}}, {{-410, 2000}, {-1000, 1000}},
	}},
	{calm, 100, []sides{
		{{1000, 2000}, {-1000, 1000}}, {{195, 2100}, {-1100, 1100}}, {{-228, 2200}, {-1200, 1200}}, {{-459, 2300}, {-1300, 1300}},
		{{-595, 2400}, {-1400, 1400}},
	}},
	{mixed, 1, []sides{{{-2, 3}, {6, 9}}}},
	{mixed, 0, []sides{{{0, 0}, {300, 300}}, {{-2, 3}, {7, 300}}, {{-2, 3}, {6, 300}}}},
	{mixed, 1, []sides{{{0, 0}, {300, 300}}, {{-3, 4}, {6, 301}}}},
	{hush, 0, []sides{{{0, 0}, {0, 0}, {0, 0}}, {{-5, 5}, {0, 7}, {-9, 0}}}},
	{hush, 1, []sides{{{0, 0}, {0, 0}, {0, 0}}, {{-6, 6}, {-1, 8}, {-10, 1}}}},
	{hush, 2, []sides{{{-9, 9}, {0, 8}, {-9, -9}}, {{-11, 11}, {-2, 10}, {-11, -6}}}},
	{cycle, 0, []sides{
		{{0, 0}, {0, 0}, {0, 0}}, {{-1, 1}, {0, 0}, {0, 3}}, {{-1, 1}, {0, 3}, {0, 3}}, {{-1, 4}, {0, 3}, {0, 4}},
		{{-1, 4}, {0, 4}, {0, 4}}, {{-1, 5}, {0, 4}, {0, 4}},
	}},
	{cycle, 1, []sides{{{0, 0}, {0, 0}, {0, 0}}, {{-2, 2}, {-1, 1}, {-1, 4}}, {{-3, 3}, {-2, 5}, {-2, 5}}, {{-4, 7}, {-3, 6}, {-3, 6}}}},
	{three, 0, []sides{{{5, 6}, {-1, 0}, {0, 0}}, {{5, 6}, {-1, 0}, {0, 8}}, {{5, 6}, {-1, 1}, {0, 8}}, {{5, 6}, {-1, 1}, {0, 9}}}},
	{chain, 0, []sides{{{0, 0}, {0, 0}, {0, 0}}, {{-1, 1}, {0, 3}, {0, 40}}, {{-1, 3}, {0, 23}, {0, 42}}, {{-1, 13}, {0, 24}, {0, 42}}}},
	{chain, 16, []sides{{{0, 0}, {0, 0}, {0, 0}}, {{-17, 17}, {-16, 19}, {-16, 56}}, {{-33, 33}, {-32, 47}, {-32, 72}}}},
	{chain, 1, []sides{{{500, 600}, {-200, 100}, {3, 3}}, {{-102, 601}, {-201, 101}, {-132, 4}}, {{-103, 602}, {-202, 102}, {-134, 70}}}},
	{ring, 3, []sides{{{-7, 7}, {-7, 7}, {-7, 7}}}},
	{ring, 0, []sides{{{1, 2}, {3, 4}, {5, 6}}, {{1, 6}, {1, 4}, {3, 6}}, {{1, 6}, {1, 6}, {1, 6}}}},
	{ring, 100, []sides{{{1, 2}, {3, 4}, {5, 6}}, {{-99, 106}, {-99, 104}, {-97, 106}}, {{-199, 206}, {-199, 206}, {-199, 206}}}},
	// Behind as many times as may be.
	{three, 0, []sides{
		{{-1000, 2000}, {9, 9}, {300, 400}}, {{-1000, 2000}, {-401, 800}, {-491, 400}}, {{-1000, 2000}, {-983, 800}, {-594, 400}},
		{{-1000, 2000}, {-1189, 800}, {-739, 400}}, {{-1000, 2000}, {-1479, 800}, {-791, 400}}, {{-1000, 2000}, {-1583, 800}, {-863, 400}},
		{{-1000, 2000}, {-1727, 863}, {-889, 400}}, {{-1000, 2000}, {-1779, 889}, {-925, 400}}, {{-1000, 2000}, {-1851, 925}, {-938, 400}},
		{{-1000, 2000}, {-1877, 938}, {-956, 400}}, {{-1000, 2000}, {-1913, 956}, {-963, 400}}, {{-1000, 2000}, {-1927, 963}, {-972, 400}},
		{{-1000, 2000}, {-1945, 972}, {-975, 400}}, {{-1000, 2000}, {-1951, 975}, {-980, 400}}, {{-1000, 2000}, {-1961, 980}, {-981, 400}},
		{{-1000, 2000}, {-1963, 981}, {-984, 400}}, {{-1000, 2000}, {-1969, 984}, {-984, 400}}, {{-1000, 2000}, {-1969, 984}, {-986, 400}},
		{{-1000, 2000}, {-1973, 986}, {-986, 400}}, {{-1000, 2000}, {-1973, 986}, {-987, 400}}, {{-1000, 2000}, {-1975, 987}, {-987, 400}},
	}},
}

// TestGrow asks of each of these with all numbers of times: with too few it tells ErrNone, with all others the box that holds.
func TestGrow(t *testing.T) {
	for _, g := range grows {
		for from := range g.all {
			checkGrowFrom(t, g.s.system(), g.by, g.all[from:])
		}
	}
}

// checkGrowFrom asks of the first of some boxes, of which each is what the one ahead of it grows to, and only the last holds.
func checkGrowFrom(t *testing.T, s api.System, by int, all []sides) {
	t.Helper()
	times := len(all) - 1
	b, last := all[0].box(), all[times].box()
	checkIs(t, s, b, times == 0, api.OK)
	for most := range times {
		checkGrow(t, s, b, by, most, nil, api.ErrNone)
	}
	for most := times; most <= 20; most++ {
		checkGrow(t, s, b, by, most, last, api.OK)
	}
}

// TestGrowAtOnce sees that a box that holds is told as it is, by whatever it might grow and however often.
func TestGrowAtOnce(t *testing.T) {
	for _, a := range slices.Concat(asks, leasts) {
		if a.is {
			checkGrowsNoMore(t, a.s.system(), a.b.box())
		}
	}
}

func checkGrowsNoMore(t *testing.T, s api.System, b []api.Span) {
	t.Helper()
	for _, by := range goodBys {
		for _, most := range goodMosts {
			checkGrow(t, s, b, by, most, b, api.OK)
		}
	}
}

// TestGrowNever asks where no number of times that may be is enough, also where just one more would be.
func TestGrowNever(t *testing.T) {
	for _, n := range []struct {
		s  system
		b  sides
		by int
	}{
		{drift, sides{{0, 0}}, 0},
		{drift, sides{{0, 0}}, 1},
		{drift, sides{{0, 0}}, 49999998},
		{double, sides{{1, 2}}, 0},
		{double, sides{{1, 2}}, 1},
		{slow, sides{{0, 0}}, 0},
		{slow, sides{{0, 0}}, 6},
		{turn, sides{{1000, 2000}, {-1000, 1000}}, 0},
		{turn, sides{{1000, 2000}, {-1000, 1000}}, 100},
		{swap, sides{{1, 2}, {-40, -30}}, 0},
		{swap, sides{{1, 2}, {-40, -30}}, 16},
		{three, sides{{-1000, 2000}, {9, 9}, {300, 400}}, 1},
		{system{[]terms{ofX}, sides{{0, 1}}}, sides{{0, top - 21}}, 0},
	} {
		for most := range 21 {
			checkGrow(t, n.s.system(), n.b.box(), n.by, most, nil, api.ErrNone)
		}
	}
	// Just as many times as may be, by one more than above.
	checkGrow(t, slow.system(), sides{{0, 0}}.box(), 7, 20, sides{{-506, 506}}.box(), api.OK)
	checkGrow(t, slow.system(), sides{{0, 0}}.box(), 7, 19, nil, api.ErrNone)
}

// growsFull is a system, a box, by how much it grows, and the fewest times of which ErrFull is told.
type growsFull struct {
	s    system
	b    sides
	by   int
	from int
}

var (
	up   = system{[]terms{ofX}, sides{{0, 1}}}
	sink = system{[]terms{ofX}, sides{{-1, -1}}}
	one  = system{[]terms{nil}, sides{{1, 1}}}
	low  = system{[]terms{nil}, sides{{-1, -1}}}
	five = system{[]terms{nil, nil, nil}, sides{{5, 5}, {0, 0}, {0, 0}}}
)

// fullAtOnce have what may be next of the box itself beyond what may be, so no number of times keeps ErrFull away.
var fullAtOnce = []growsFull{
	{up, sides{{0, top}}, 0, 0},
	{system{[]terms{ofX}, sides{{-1, 0}}}, sides{{-top, 0}}, 0, 0},
	{double, sides{{0, top/2 + 1}}, 1, 0},
	{drift, sides{{-top, top}}, top, 0},
	{system{[]terms{{{top, 0, 0, 0}, {top, 0, 0, 0}}}, sides{{-top, -top}}}, sides{{-top, top}}, 0, 0},
	{system{[]terms{{{0, 2, 0, 0}}}, sides{{0, 0}}}, sides{{0, 1000001}}, 0, 0},
	{system{[]terms{nil, {{2000, 0, 1, 0}}}, make(sides, 2)}, sides{{0, 0}, {-top, 0}}, 3, 0},
	{system{[]terms{nil, nil, {{2000, 0, 0, 1}}}, make(sides, 3)}, sides{{0, 0}, {0, 0}, {top, top}}, 5, 0},
}

// fullLater have something beyond what may be behind one time and more.
var fullLater = []growsFull{
	// What may be next of what has grown.
	{double, sides{{0, 250000000}}, 0, 2},
	{double, sides{{-250000000, 0}}, 0, 2},
	{double, sides{{-250000001, 0}}, 0, 1},
	{double, sides{{0, 954}}, 0, 19},
	{double, sides{{0, 953}}, 0, 20},
	{several, sides{{-796, 236}}, 0, 6},
	{several, sides{{-796, 236}}, 100, 5},
	{up, sides{{0, top - 1}}, 0, 1},
	{up, sides{{0, top - 2}}, 0, 2},
	{up, sides{{0, top - 20}}, 0, 20},
	{drift, sides{{0, 0}}, 499999999, 2},
	{drift, sides{{0, 0}}, 49999999, 20},
	{drift, sides{{0, 0}}, top - 1, 1},
	{mixed, sides{{-1000, 2000}, {3000, 3001}}, 0, 18},
	{mixed, sides{{-1000, 2000}, {3000, 3001}}, 100, 13},
	{system{[]terms{nil, nil, {{2000, 0, 0, 1}}}, make(sides, 3)}, sides{{0, 0}, {0, 0}, {1, top / 2}}, 0, 1},
	// A side that is made wider: at its lower end, at its upper one, and at both.
	{none, sides{{5, 7}}, top - 29, 1},
	{none, sides{{5, 7}}, top - 9, 1},
	{none, sides{{5, 7}}, top, 1},
	{system{[]terms{nil}, sides{{-10, 30}}}, sides{{5, 7}}, top - 29, 1},
	{one, sides{{0, 0}}, top, 1},
	{low, sides{{0, 0}}, top, 1},
	{half, sides{{0, 0}}, top - 19, 1},
	{system{[]terms{nil}, sides{{0, 0}}}, sides{{top - 1, top}}, 1, 1},
	{system{[]terms{nil}, sides{{0, 0}}}, sides{{1 - top, -5}}, 2, 1},
	{drift, sides{{0, 0}}, 500000000, 2},
	{drift, sides{{0, 0}}, 333333333, 3},
	{drift, sides{{0, 0}}, 50000000, 20},
	{sink, sides{{0, 0}}, 50000000, 20},
	// A side that would hold by itself, made wider because another one does not.
	{system{[]terms{nil, nil}, sides{{5, 5}, {0, 0}}}, sides{{0, 0}, {-top, top}}, 1, 1},
	{system{[]terms{nil, nil}, sides{{0, 0}, {5, 5}}}, sides{{-top, 0}, {0, 0}}, 1, 1},
	{five, sides{{0, 0}, {0, 0}, {0, top}}, 1, 1},
}

// TestFull sees that ErrFull is told from that number of times on, and ErrNone with fewer.
func TestFull(t *testing.T) {
	for _, f := range slices.Concat(fullAtOnce, fullLater) {
		s, b := f.s.system(), f.b.box()
		for most := range f.from {
			checkGrow(t, s, b, f.by, most, nil, api.ErrNone)
		}
		for most := f.from; most <= 20; most++ {
			checkGrow(t, s, b, f.by, most, nil, api.ErrFull)
		}
	}
}

// TestIsFull sees that Is tells ErrFull of just those boxes of which what may be next is beyond what may be.
func TestIsFull(t *testing.T) {
	for _, f := range fullAtOnce {
		checkIs(t, f.s.system(), f.b.box(), false, api.ErrFull)
	}
	for _, f := range fullLater {
		checkIs(t, f.s.system(), f.b.box(), false, api.OK)
	}
}

// TestNotFull asks just ahead of where a side that is made wider would go beyond what may be.
func TestNotFull(t *testing.T) {
	for _, c := range []struct {
		s    system
		b    sides
		by   int
		want sides
	}{
		{none, sides{{5, 7}}, top - 30, sides{{-top, top - 20}}},
		{system{[]terms{nil}, sides{{-10, 30}}}, sides{{5, 7}}, top - 30, sides{{20 - top, top}}},
		{one, sides{{0, 0}}, top - 1, sides{{1 - top, top}}},
		{low, sides{{0, 0}}, top - 1, sides{{-top, top - 1}}},
		{half, sides{{0, 0}}, top - 20, sides{{10 - top, top}}},
		{system{[]terms{nil}, sides{{0, 0}}}, sides{{top - 1, top}}, 0, sides{{0, top}}},
		{system{[]terms{nil}, sides{{0, 0}}}, sides{{1 - top, -5}}, 1, sides{{-top, 1}}},
		{system{[]terms{nil, nil}, sides{{5, 5}, {0, 0}}}, sides{{0, 0}, {-top, top}}, 0, sides{{0, 5}, {-top, top}}},
		{five, sides{{0, 0}, {0, 0}, {0, top - 1}}, 1, sides{{-1, 6}, {-1, 1}, {-1, top}}},
	} {
		checkGrow(t, c.s.system(), c.b.box(), c.by, 0, nil, api.ErrNone)
		for most := 1; most <= 20; most++ {
			checkGrow(t, c.s.system(), c.b.box(), c.by, most, c.want.box(), api.OK)
		}
	}
}

// wrongSystems are systems with a fault, and which; where several are wrong with one, what is told first.
var wrongSystems = []struct {
	s    system
	told api.Errno
}{
	// No polynomial, and too many, whatever there is of pushes.
	{system{}, api.ErrNone},
	{system{[]terms{}, sides{}}, api.ErrNone},
	{system{nil, sides{{1, 0}, {0, top + 1}}}, api.ErrNone},
	{system{make([]terms, 4), make(sides, 4)}, api.ErrFull},
	{system{make([]terms, 1000), nil}, api.ErrFull},
	{system{[]terms{{{top + 1, 0, 0, 0}}, nil, nil, ofY}, sides{{1, 0}}}, api.ErrFull},
	// Not as many pushes, whatever else is wrong.
	{system{[]terms{ofX}, nil}, api.ErrShape},
	{system{[]terms{ofX}, sides{{0, 0}, {0, 0}}}, api.ErrShape},
	{system{[]terms{ofX, ofY}, sides{{0, top + 1}}}, api.ErrShape},
	{system{[]terms{ofX, make(terms, 7), ofZ}, sides{{0, 0}, {0, 0}}}, api.ErrShape},
	{system{[]terms{ofX, ofY, ofZ}, make(sides, 4)}, api.ErrShape},
	// A polynomial, by each of its faults, wherever it stands.
	{system{[]terms{make(terms, 7)}, sides{{0, 0}}}, api.ErrFull},
	{system{[]terms{nil, nil, make(terms, 1000)}, sides{{0, 0}, {0, 0}, {0, 0}}}, api.ErrFull},
	{system{[]terms{{{top + 1, 0, 0, 0}}}, sides{{0, 0}}}, api.ErrRange},
	{system{[]terms{nil, {{1, 0, 0, 0}, {math.MinInt, 0, 0, 0}}}, sides{{0, 0}, {0, 0}}}, api.ErrRange},
	{system{[]terms{nil, nil, {{math.MaxInt, 0, 0, 0}}}, sides{{0, 0}, {0, 0}, {0, 0}}}, api.ErrRange},
	{system{[]terms{{{1, -1, 0, 0}}}, sides{{0, 0}}}, api.ErrRange},
	{system{[]terms{{{1, 4, 0, 0}}}, sides{{0, 0}}}, api.ErrRange},
	{system{[]terms{nil, {{1, 2, 2, 0}}}, sides{{0, 0}, {0, 0}}}, api.ErrRange},
	{system{[]terms{{{1, math.MaxInt, math.MaxInt, 2}}, nil, nil}, sides{{0, 0}, {0, 0}, {0, 0}}}, api.ErrRange},
	{system{[]terms{nil, nil, {{1, 0, math.MinInt, 0}}}, sides{{0, 0}, {0, 0}, {0, 0}}}, api.ErrRange},
	{system{[]terms{ofY}, sides{{0, 0}}}, api.ErrShape},
	{system{[]terms{ofX, ofZ}, sides{{0, 0}, {0, 0}}}, api.ErrShape},
	// Several polynomials: the first one's is told.
	{system{[]terms{ofZ, make(terms, 7)}, sides{{0, 0}, {0, 0}}}, api.ErrShape},
	{system{[]terms{make(terms, 7), {{top + 1, 0, 0, 0}}}, sides{{0, 0}, {0, 0}}}, api.ErrFull},
	{system{[]terms{{{1, 4, 0, 0}}, make(terms, 7)}, sides{{0, 0}, {0, 0}}}, api.ErrRange},
	// A Push, by each of its faults, wherever it stands, and behind a polynomial's.
	{system{[]terms{ofX}, sides{{1, 0}}}, api.ErrShape},
	{system{[]terms{ofX}, sides{{0, top + 1}}}, api.ErrRange},
	{system{[]terms{ofX}, sides{{math.MaxInt, math.MinInt}}}, api.ErrRange},
	{system{[]terms{ofX, ofY}, sides{{0, 0}, {0, -1}}}, api.ErrShape},
	{system{[]terms{ofX, ofY}, sides{{1, 0}, {math.MinInt, 0}}}, api.ErrShape},
	{system{[]terms{ofX, ofY, ofZ}, sides{{0, 0}, {math.MinInt, 0}, {1, 0}}}, api.ErrRange},
	{system{[]terms{ofX, make(terms, 7)}, sides{{1, 0}, {0, 0}}}, api.ErrFull},
	{system{[]terms{ofY}, sides{{0, top + 1}}}, api.ErrShape},
}

// wrongBoxes are boxes with a fault, and which.
var wrongBoxes = []struct {
	b    sides
	told api.Errno
}{
	{nil, api.ErrNone},
	{sides{}, api.ErrNone},
	{sides{{0, 1}, {0, 1}}[:0], api.ErrNone},
	{sides{{0, 1}, {0, 1}, {0, 1}, {0, 1}}, api.ErrFull},
	{sides{{1, 0}, {0, top + 1}, {0, 1}, {0, 1}}, api.ErrFull},
	{make(sides, 1000), api.ErrFull},
	{sides{{1, 0}}, api.ErrShape},
	{sides{{0, top + 1}}, api.ErrRange},
	{sides{{math.MinInt, math.MaxInt}}, api.ErrRange},
	{sides{{math.MaxInt, math.MinInt}}, api.ErrRange},
	{sides{{0, 1}, {1, 0}}, api.ErrShape},
	{sides{{-top - 1, 0}, {1, 0}}, api.ErrRange},
	{sides{{0, 1}, {1, 0}, {0, top + 1}}, api.ErrShape},
	{sides{{0, 1}, {0, 1}, {math.MinInt, 0}}, api.ErrRange},
}

// goodBoxes have nothing wrong with them, of each number of sides; of the last ones most steps are beyond what may be.
var goodBoxes = []sides{
	{{-1000, 2000}}, {{-1000, 2000}, {5, 5}}, {{-1000, 2000}, {5, 5}, {-9, -7}},
	{{top, top}}, {{-top, top}, {top, top}}, {{-top, top}, {top, top}, {-top, -top}},
}

// goodBys and goodMosts may be, wrongBys and wrongMosts may not.
var (
	goodBys    = []int{0, 1, 2, 1000, top - 1, top}
	wrongBys   = []int{-1, -2, 1 - top, -top, -top - 1, top + 1, top + 2, 2 * top, math.MinInt, math.MinInt + 1, math.MaxInt - 1, math.MaxInt}
	goodMosts  = []int{0, 1, 2, 19, 20}
	wrongMosts = []int{-1, -2, -20, 21, 22, 1000, top, math.MinInt, math.MinInt + 1, math.MaxInt - 1, math.MaxInt}
)

// TestWrongNumbers sees that a wrong by, a wrong most, and both are told ahead of all else: whatever the system and the box, and whether they go together, or hold, or are beyond what may be.
func TestWrongNumbers(t *testing.T) {
	for _, by := range wrongBys {
		for _, most := range slices.Concat(goodMosts, wrongMosts) {
			checkWrongNumbers(t, by, most)
		}
	}
	for _, by := range goodBys {
		for _, most := range wrongMosts {
			checkWrongNumbers(t, by, most)
		}
	}
}

func checkWrongNumbers(t *testing.T, by, most int) {
	t.Helper()
	for _, b := range goodBoxes {
		for _, g := range goodSystems {
			checkGrow(t, g.system(), b.box(), by, most, nil, api.ErrRange)
		}
		for _, w := range wrongSystems {
			checkGrow(t, w.s.system(), b.box(), by, most, nil, api.ErrRange)
		}
	}
	for _, v := range wrongBoxes {
		checkGrow(t, turn.system(), v.b.box(), by, most, nil, api.ErrRange)
		checkGrow(t, api.System{}, v.b.box(), by, most, nil, api.ErrRange)
	}
	for _, a := range leasts {
		checkGrow(t, a.s.system(), a.b.box(), by, most, nil, api.ErrRange)
	}
	for _, f := range fullAtOnce {
		checkGrow(t, f.s.system(), f.b.box(), by, most, nil, api.ErrRange)
	}
}

// checkNot sees that Is tells what is wrong, and nothing else; Grow likewise, by whatever it might grow and however often.
func checkNot(t *testing.T, s api.System, b []api.Span, told api.Errno) {
	t.Helper()
	checkIs(t, s, b, false, told)
	for _, by := range goodBys {
		for _, most := range goodMosts {
			checkGrow(t, s, b, by, most, nil, told)
		}
	}
}

// TestWrongSystem sees that what is wrong with the system is told, whatever the box.
func TestWrongSystem(t *testing.T) {
	for _, w := range wrongSystems {
		for _, g := range goodBoxes {
			checkNot(t, w.s.system(), g.box(), w.told)
		}
		for _, v := range wrongBoxes {
			checkNot(t, w.s.system(), v.b.box(), w.told)
		}
	}
}

// TestWrongBox sees that what is wrong with the box is told, whether it has as many sides as the system or not.
func TestWrongBox(t *testing.T) {
	for _, g := range goodSystems {
		for _, w := range wrongBoxes {
			checkNot(t, g.system(), w.b.box(), w.told)
		}
	}
}

// TestShape asks with sides too few and too many: also where it would hold, or be beyond what may be.
func TestShape(t *testing.T) {
	for _, g := range append(slices.Clone(goodSystems), system{[]terms{{{top, 0, 0, 0}}}, sides{{1, 1}}}) {
		for _, b := range goodBoxes {
			if len(b) != len(g.next) {
				checkNot(t, g.system(), b.box(), api.ErrShape)
			}
		}
	}
	checkNot(t, none.system(), sides{{-30, 10}, {0, 0}}.box(), api.ErrShape)
	checkNot(t, empty.system(), sides{{-1, 22}}.box(), api.ErrShape)
	checkNot(t, hush.system(), sides{{-5, 5}, {7, 7}}.box(), api.ErrShape)
}

// within tells whether each side of a is within that of b.
func within(a, b []api.Span) bool {
	for k, side := range a {
		if side.Lo < b[k].Lo || side.Hi > b[k].Hi {
			return false
		}
	}
	return len(a) == len(b)
}

// meantIs is what the chapter says of Is, by what chapter 12's own tests hold of what may be next.
func meantIs(s api.System, b []api.Span) (bool, api.Errno) {
	next, err := step.Of(s, b)
	if err != nil {
		return false, plain.Told(err)
	}
	return within(next, b), api.OK
}

// meantGrow is likewise what it says of Grow.
func meantGrow(s api.System, b []api.Span, by, most int) ([]api.Span, api.Errno) {
	if by < 0 || by > top || most < 0 || most > 20 {
		return nil, api.ErrRange
	}
	is, told := meantIs(s, b)
	if told != api.OK {
		return nil, told
	}
	if is {
		return b, api.OK
	}
	if most == 0 {
		return nil, api.ErrNone
	}
	next, _ := step.Of(s, b)
	var wide []api.Span
	for k, side := range b {
		lo, hi := min(side.Lo, next[k].Lo)-by, max(side.Hi, next[k].Hi)+by
		if lo < -top || hi > top {
			return nil, api.ErrFull
		}
		wide = append(wide, api.Span{Lo: lo, Hi: hi})
	}
	return meantGrow(s, wide, by, most-1)
}

// checkMeant holds both calls against what is meant.
func checkMeant(t *testing.T, s api.System, b []api.Span, by, most int) {
	t.Helper()
	is, told := meantIs(s, b)
	checkIs(t, s, b, is, told)
	held, told := meantGrow(s, b, by, most)
	checkGrow(t, s, b, by, most, held, told)
}

// lists gives all lists of up to some things out of all.
func lists[T any](all []T, upTo int) [][]T {
	made, last := [][]T{nil}, [][]T{nil}
	for range upTo {
		var next [][]T
		for _, l := range last {
			for _, one := range all {
				next = append(next, append(slices.Clone(l), one))
			}
		}
		made, last = append(made, next...), next
	}
	return made
}

// edgeForms are polynomials of up to three unknowns, near and far.
var edgeForms = []terms{
	nil, {{7, 0, 0, 0}}, ofX, {{-333, 0, 1, 0}}, {{-333, 1, 0, 1}, {1, 0, 2, 0}}, {{500, 1, 0, 0}, {-far, 0, 0, 0}},
	{{2000, 1, 0, 0}}, {{top, 0, 1, 0}}, {{1, 0, 0, 0}, {1, 4, 0, 0}},
}

// edgeSystems gives all systems of up to three of these, each with other pushes.
func edgeSystems() []api.System {
	pushes := sides{{0, 0}, {-9, 4}, {-top, top}, {3, 3}, {top - 5, top}, {-top, -top + 5}, {2, 1}}
	var forms [][]api.Term
	for _, l := range edgeForms {
		forms = append(forms, l.form())
	}
	var all []api.System
	for i, next := range lists(forms, 3) {
		s := api.System{Next: next}
		for j := range next {
			// As all pushes with all polynomials would be many, others come each time; the last one is wrong, and comes seldom.
			at := (i*(j+1) + i/7 + j) % len(pushes)
			if at == len(pushes)-1 && i%3 > 0 {
				at = j
			}
			s.Push = append(s.Push, pushes[at:at+1].box()...)
		}
		all = append(all, s)
	}
	return all
}

// TestAllOfEdges goes over all such systems, over boxes whose sides are below 0, above it, across it, of one number, and wrong.
func TestAllOfEdges(t *testing.T) {
	over := lists(sides{{-3000, -1000}, {-5, 7}, {1733, 1733}, {-top, top}, {1, 0}}.box(), 3)
	bys := []int{0, 1, 20, 0, 700, 1, 100000, 0, 16, top - 5000, top, -1, top + 1}
	mosts := []int{20, 1, 5, 20, 0, 2, 20, 3, 19, 20, math.MinInt, 21, 20}
	for i, s := range edgeSystems() {
		for j, b := range over {
			// Most boxes have other sides than a system, and then all numbers of times tell the same.
			if len(b) == len(s.Next) || (i+j)%5 == 0 {
				checkMeant(t, s, b, bys[(i+j)%len(bys)], mosts[(i+3*j+i/13)%len(mosts)])
			}
		}
	}
}

// TestAllOfFar goes over all numbers at which something turns, as by, as most, as By, as times and as ends.
func TestAllOfFar(t *testing.T) {
	edges := []int{math.MinInt, math.MinInt + 1, -top - 1, -top, 1 - top, -far, -1, 0, 1, 3, 4, 20, 21, far, top - 1, top, top + 1, math.MaxInt}
	for _, n := range edges {
		for _, m := range edges {
			for _, s := range []api.System{
				system{[]terms{{{n, 1, 0, 0}}}, sides{{0, 0}}}.system(),
				system{[]terms{{{5, m, 0, 0}}}, sides{{0, 0}}}.system(),
				system{[]terms{{{500, 1, 0, 0}}}, sides{{n, m}}}.system(),
				drift.system(),
				none.system(),
			} {
				checkMeant(t, s, sides{{n, m}}.box(), 2, 5)
				checkMeant(t, s, sides{{m, m}}.box(), n, 2)
				checkMeant(t, s, sides{{m, m}}.box(), 2, n)
				checkMeant(t, s, sides{{-5, 5}}.box(), n, m)
			}
		}
	}
}

// places are sides of boxes near enough for Path.
var places = sides{{-1500, -999}, {-7, 0}, {-800, 733}, {0, 99}, {234, 234}, {501, 1000}}.box()

// outcomes are how often Grow told a box as it was, another one, and ErrNone.
type outcomes struct{ atOnce, later, never int }

// TestHoldsForEver sees, of boxes of each number of sides, that what Grow tells has the box, holds, and has each box that Run tells from it, and from the box itself.
func TestHoldsForEver(t *testing.T) {
	var found [4]outcomes
	for _, g := range goodSystems {
		for _, b := range lists(places, 3) {
			if len(b) != len(g.next) {
				continue
			}
			for i, by := range []int{0, 1, 16, 100, 5000} {
				holdsForEver(t, g.system(), b, by, []int{20, 3, 1, 7, 0}[(i+len(g.next))%5], &found[len(b)])
			}
		}
	}
	for many, f := range found[1:] {
		if f.atOnce == 0 || f.later == 0 || f.never == 0 {
			t.Errorf("of %d sides Grow told %+v", many+1, f)
		}
	}
}

func holdsForEver(t *testing.T, s api.System, b []api.Span, by, most int, found *outcomes) {
	t.Helper()
	held, err := hold.Grow(s, b, by, most)
	if err != nil {
		if plain.Told(err) == api.ErrNone {
			found.never++
		}
		return
	}
	if !within(b, held) {
		t.Errorf("Grow(%v, %v, %d, %d) = %v, which has not the box", s, b, by, most, held)
	}
	checkIs(t, s, held, true, api.OK)
	checkGrow(t, s, held, by, 0, held, api.OK)
	for _, steps := range goodMosts {
		for _, from := range [][]api.Span{b, held} {
			tube, err := flow.Run(s, from, steps)
			out := func(at []api.Span) bool { return !within(at, held) }
			if err != nil || len(tube) != steps+1 || slices.ContainsFunc(tube, out) {
				t.Errorf("Grow(%v, %v, %d, %d) = %v, and Run(%v, %d), %v, %v, is not within that", s, b, by, most, held, from, steps, tube, err)
			}
		}
	}
	if slices.Equal(b, held) {
		found.atOnce++
	} else {
		found.later++
	}
	neverLeave(t, s, held)
}

// neverLeave goes along paths out of a box that holds, from its ends and from inside, with pushes at the ends of their spans and inside: each point is in the box.
func neverLeave(t *testing.T, s api.System, held []api.Span) {
	t.Helper()
	if !within(held, slices.Repeat([]api.Span{{Lo: -far, Hi: far}}, len(held))) {
		return
	}
	for way := range 3 {
		x, push := make([]int, len(held)), make([][]int, 20)
		for k, side := range held {
			x[k] = partOf(side, way+k)
		}
		for at := range push {
			for k, span := range s.Push {
				push[at] = append(push[at], partOf(span, way+k+at*(way+1)))
			}
		}
		path, err := flow.Path(s, x, push)
		if err != nil || slices.ContainsFunc(path, func(point []int) bool { return !has(held, point) }) {
			t.Errorf("of %v the box %v holds, and Path(%v, %v), %v, %v, leaves it", s, held, x, push, path, err)
		}
	}
}

// partOf gives one end of a span, the other one, or a number inside, by whatever pick picks.
func partOf(s api.Span, pick int) int { return []int{s.Lo, s.Hi, s.Lo + (s.Hi-s.Lo)/3}[pick%3] }

// has tells whether a box has numbers.
func has(b []api.Span, x []int) bool {
	for k, n := range x {
		if n < b[k].Lo || n > b[k].Hi {
			return false
		}
	}
	return len(x) == len(b)
}

// TestShared asks with one list at several places: that makes no difference, and none of them is what is told.
func TestShared(t *testing.T) {
	f := terms{{100, 1, 0, 0}, {-100, 0, 1, 0}}.form()
	spans := sides{{-5, 5}, {1, 2}}.box()
	still := api.System{Next: make([][]api.Term, 2), Push: spans}
	s := api.System{Next: [][]api.Term{f, f}, Push: spans}
	for range 3 {
		checkIs(t, still, spans, true, api.OK)
		checkIs(t, s, spans, false, api.OK)
		for _, c := range []struct {
			s        api.System
			by, most int
			want     sides
		}{
			{still, 0, 0, sides{{-5, 5}, {1, 2}}},
			{still, top, 20, sides{{-5, 5}, {1, 2}}},
			{s, 0, 2, sides{{-7, 7}, {-1, 4}}},
			{s, 1, 1, sides{{-8, 7}, {-2, 4}}},
		} {
			held, err := hold.Grow(c.s, spans, c.by, c.most)
			if !slices.Equal(held, c.want.box()) || err != nil {
				t.Errorf("Grow(%v, %v, %d, %d) = %v, %v; want %v", c.s, spans, c.by, c.most, held, err, c.want)
			}
			spoil(held, api.Span{Lo: behind})
		}
	}
}

// TestFresh sees that what a call told before is not written over by a later one.
func TestFresh(t *testing.T) {
	s, b := calm.system(), sides{{1000, 2000}, {-1000, 1000}}.box()
	held, _ := hold.Grow(s, b, 100, 4)
	for range 3 {
		// What was told is handed in as well, as a caller does that goes on from there.
		for most := range 21 {
			again, _ := hold.Grow(s, held, 100, most)
			spoil(again, api.Span{Lo: behind})
			again, _ = hold.Grow(s, b, 100, most)
			spoil(again, api.Span{Lo: behind})
		}
	}
	if want := (sides{{-595, 2400}, {-1400, 1400}}).box(); !slices.Equal(held, want) {
		t.Errorf("what was told as %v is now %v", want, held)
	}
}

// TestAgain asks the same again, behind other calls: what is told hangs on what is handed in alone.
func TestAgain(t *testing.T) {
	s, b := calm.system(), sides{{1000, 2000}, {-1000, 1000}}.box()
	for range 3 {
		checkIs(t, s, b, false, api.OK)
		checkGrow(t, s, b, 100, 4, sides{{-595, 2400}, {-1400, 1400}}.box(), api.OK)
		checkGrow(t, s, b, 100, 3, nil, api.ErrNone)
		checkGrow(t, s, b, top, 1, nil, api.ErrFull)
		checkGrow(t, s, b, -1, 4, nil, api.ErrRange)
		checkGrow(t, s, b[:1], 100, 4, nil, api.ErrShape)
		checkIs(t, s, b[:1], false, api.ErrShape)
		checkIs(t, s, sides{{-595, 2400}, {-1400, 1400}}.box(), true, api.OK)
	}
}

// timesThatMayBe gives how often three unknowns may stand in a Term.
func timesThatMayBe() [][3]int {
	var l [][3]int
	for _, times := range lists([]int{0, 1, 2, 3}, 3) {
		if len(times) == 3 && times[0]+times[1]+times[2] <= 3 {
			l = append(l, [3]int(times))
		}
	}
	return l
}

// madeUp is a system of so many polynomials, out of some numbers and whatever pick picks.
func madeUp(many int, pick uint32, numbers []int) api.System {
	good := timesThatMayBe()
	s := api.System{Next: make([][]api.Term, many), Push: make([]api.Span, many)}
	rest := pick
	for i := range s.Next {
		s.Next[i] = make([]api.Term, rest%8)
		for j := range s.Next[i] {
			rest = rest/3 + pick + uint32(i+j)
			times := good[int(rest)%len(good)]
			// Most Terms would have unknowns that are not there, were they not left out here.
			for k := many; k < len(times) && rest%31 > 0; k++ {
				times[k] = 0
			}
			s.Next[i][j] = api.Term{By: numbers[(i+j)%len(numbers)], Times: times}
		}
		lo, hi := numbers[(i+1)%len(numbers)], numbers[(2*i+2)%len(numbers)]
		s.Push[i] = api.Span{Lo: min(lo, hi), Hi: max(lo, hi)}
	}
	return s
}

// FuzzHold holds systems of up to four unknowns, over any box, with any by and most, against what is meant.
func FuzzHold(f *testing.F) {
	f.Add(uint8(2), uint8(2), uint32(1), 3, 5, -500, 250, 7, -4000, -3998, -3551, -551)
	f.Add(uint8(3), uint8(3), uint32(987654321), 0, 20, 1, -2, 3, -1000, 2000, 5, -7)
	f.Add(uint8(1), uint8(1), uint32(15), 1, 19, 300, -200, 100, 40, -30, 20, 10)
	f.Add(uint8(4), uint8(0), uint32(0), math.MinInt, math.MaxInt, math.MinInt, math.MaxInt, 0, math.MaxInt, math.MinInt, 0, 1)
	f.Fuzz(func(t *testing.T, many, wide uint8, pick uint32, by, most, a, b, c, p, q, r, s int) {
		for _, bound := range []int{math.MaxInt, top + 2, far + 2, 700} {
			// Most ints are none that may be, and most products are beyond it, so they are brought near as well.
			numbers := []int{a % bound, b % bound, c % bound, p % bound, q % bound, r % bound, s % bound}
			for _, sides := range []int{int(wide % 5), int(many % 5)} {
				made := madeUp(int(many%5), pick, numbers)
				over := make([]api.Span, sides)
				for i := range over {
					lo, hi := numbers[3+i%4], numbers[3+(i+1)%4]
					over[i] = api.Span{Lo: min(lo, hi), Hi: max(lo, hi)}
				}
				checkMeant(t, made, over, by, most)
				checkMeant(t, made, over, by%bound, most%23)
			}
		}
	})
}
