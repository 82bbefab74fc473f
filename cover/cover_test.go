package cover_test

import (
	"math"
	"slices"
	"testing"

	"spanmeadow/api"
	"spanmeadow/cover"
	"spanmeadow/plain"
	"spanmeadow/step"
)

// most is the greatest number that may be.
const most = api.MaxNumber

// far is how far from 0 the numbers are at which Point tells what is next.
const far = 20 * api.One

// behind is what is laid behind a list's length, to tell whether it is read or written.
const behind = 4711

// terms of a polynomial: by, and how often each unknown.
type terms [][4]int

// form of these terms; of none nil stays nil, so that it is asked too.
func (l terms) form() []api.Term {
	if l == nil {
		return nil
	}
	f := make([]api.Term, len(l))
	for i, t := range l {
		f[i] = api.Term{By: t[0], Times: [3]int(t[1:])}
	}
	return f
}

// sides of a box, or pushes, by their ends.
type sides [][2]int

// box of these sides, likewise.
func (l sides) box() []api.Span {
	if l == nil {
		return nil
	}
	b := make([]api.Span, len(l))
	for i, ends := range l {
		b[i] = api.Span{Lo: ends[0], Hi: ends[1]}
	}
	return b
}

// boxes of these sides, one by one.
func boxes(l []sides) [][]api.Span {
	var made [][]api.Span
	for _, one := range l {
		made = append(made, one.box())
	}
	return made
}

// system of polynomials and pushes.
type system struct {
	next []terms
	push sides
}

func (s system) system() api.System {
	made := api.System{Push: s.push.box()}
	if s.next != nil {
		made.Next = make([][]api.Term, len(s.next))
	}
	for i, l := range s.next {
		made.Next[i] = l.form()
	}
	return made
}

// handed is a list for a call, with memory behind its length; unchanged tells whether all of it is as it was.
func handed[T comparable](l []T, after T) (list []T, unchanged func() bool) {
	if l == nil {
		return nil, func() bool { return true }
	}
	whole := append(slices.Clone(l), after, after)
	before := slices.Clone(whole)
	return whole[:len(l)], func() bool { return slices.Equal(whole, before) }
}

// handedLists is likewise a list of lists, with memory behind it and behind each of them.
func handedLists[T comparable](l [][]T, after T) (list [][]T, unchanged func() bool) {
	if l == nil {
		return nil, func() bool { return true }
	}
	whole, asks := make([][]T, 0, len(l)+2), []func() bool{}
	for _, one := range l {
		inner, same := handed(one, after)
		whole, asks = append(whole, inner), append(asks, same)
	}
	whole = append(whole, []T{after}, nil)
	before := slices.Clone(whole)
	return whole[:len(l)], func() bool {
		return slices.EqualFunc(whole, before, sameMemory) &&
			!slices.ContainsFunc(asks, func(same func() bool) bool { return !same() })
	}
}

// sameMemory tells whether two lists are one.
func sameMemory[T any](a, b []T) bool {
	return len(a) == len(b) && cap(a) == cap(b) && (cap(a) == 0 || &a[:1][0] == &b[:1][0])
}

func handedBox(b []api.Span) ([]api.Span, func() bool) {
	return handed(b, api.Span{Lo: behind, Hi: -behind})
}

// handedSystem is a system for a call, with memory behind each of its lists.
func handedSystem(s api.System) (api.System, func() bool) {
	next, nextSame := handedLists(s.Next, api.Term{By: math.MinInt, Times: [3]int{behind, -behind, behind}})
	push, pushSame := handedBox(s.Push)
	return api.System{Next: next, Push: push}, func() bool { return nextSame() && pushSame() }
}

// spoil writes over all of a list's memory.
func spoil[T any](l []T, by T) {
	all := l[:cap(l)]
	for i := range all {
		all[i] = by
	}
}

// spoilLists writes over all memory of some lists, by another thing for each, then over the list of them; it tells whether no two of them share any.
func spoilLists[T comparable](l [][]T, by func(i int) T) bool {
	for i, one := range l {
		spoil(one, by(i))
	}
	apart := true
	for i, one := range l {
		apart = apart && !slices.ContainsFunc(one[:cap(one)], func(is T) bool { return is != by(i) })
	}
	spoil(l, nil)
	return apart
}

func sameLists[T comparable](a, b [][]T) bool { return slices.EqualFunc(a, b, slices.Equal[[]T]) }

func checkPieces(t *testing.T, b []api.Span, depth int, want [][]api.Span, told api.Errno) {
	t.Helper()
	over, same := handedBox(b)
	got, err := cover.Pieces(over, depth)
	if !sameLists(got, want) || plain.Told(err) != told {
		t.Errorf("Pieces(%v, %d) = %v, %v; want %v, %v", b, depth, got, err, want, told)
	}
	if !same() {
		t.Errorf("Pieces(%v, %d) changed what it was handed", b, depth)
	}
	if !spoilLists(got, func(i int) api.Span { return api.Span{Lo: -behind, Hi: i} }) {
		t.Errorf("Pieces(%v, %d) told lists that share memory", b, depth)
	}
	if !same() {
		t.Errorf("Pieces(%v, %d) told what shares memory with what it was handed", b, depth)
	}
}

func checkStep(t *testing.T, s api.System, b []api.Span, depth int, want []api.Span, told api.Errno) {
	t.Helper()
	list, listSame := handedSystem(s)
	over, overSame := handedBox(b)
	got, err := cover.Step(list, over, depth)
	if !slices.Equal(got, want) || plain.Told(err) != told {
		t.Errorf("Step(%v, %v, %d) = %v, %v; want %v, %v", s, b, depth, got, err, want, told)
	}
	if !listSame() || !overSame() {
		t.Errorf("Step(%v, %v, %d) changed what it was handed", s, b, depth)
	}
	spoil(got, api.Span{Lo: -behind, Hi: behind})
	if !listSame() || !overSame() {
		t.Errorf("Step(%v, %v, %d) told what shares memory with what it was handed", s, b, depth)
	}
}

// The polynomials and systems that several tests take.
var (
	ofX = terms{{1000, 1, 0, 0}}
	ofY = terms{{1000, 0, 1, 0}}
	ofZ = terms{{1000, 0, 0, 1}}

	none    = system{[]terms{nil}, sides{{-30, 10}}}
	half    = system{[]terms{{{500, 1, 0, 0}}}, sides{{-10, 20}}}
	back    = system{[]terms{{{-500, 1, 0, 0}}}, sides{{3, 3}}}
	third   = system{[]terms{{{333, 1, 0, 0}}}, sides{{0, 0}}}
	little  = system{[]terms{{{-1, 1, 0, 0}}}, sides{{-7, 7}}}
	square  = system{[]terms{{{1000, 2, 0, 0}, {-750, 0, 0, 0}}}, sides{{-1, 1}}}
	several = system{[]terms{{{371, 3, 0, 0}, {-437, 2, 0, 0}, {-500, 0, 0, 0}}}, sides{{18, 26}}}
	bent    = system{[]terms{{{1000, 2, 0, 0}, {-1000, 1, 0, 0}}}, sides{{0, 0}}}
	apart   = system{[]terms{{{1000, 1, 0, 0}, {-1000, 1, 0, 0}}}, sides{{0, 0}}}
	again   = system{[]terms{{{1000, 1, 0, 0}, {-1000, 1, 0, 0}, {1000, 1, 0, 0}, {-1000, 1, 0, 0}}}, sides{{0, 0}}}
	turn    = system{[]terms{{{900, 1, 0, 0}, {200, 0, 1, 0}}, {{-200, 1, 0, 0}, {900, 0, 1, 0}}}, sides{{-5, 5}, {10, 10}}}
	swap    = system{[]terms{ofY, ofX}, sides{{1, 1}, {20, 20}}}
	mixed   = system{[]terms{{}, {{1000, 1, 1, 0}, {7, 0, 0, 0}}}, sides{{-2, 3}, {0, 1}}}
	cross   = system{[]terms{{{1000, 1, 1, 0}, {-1000, 1, 0, 0}}, {{1000, 0, 2, 0}, {-1000, 1, 1, 0}, {500, 0, 0, 0}}}, sides{{-3, 4}, {0, 0}}}
	cycle   = system{[]terms{ofY, ofZ, {{1000, 1, 1, 1}}}, sides{{-1, 1}, {0, 0}, {2, 3}}}
	three   = system{[]terms{nil, {{1000, 1, 0, 1}}, {{7, 0, 0, 0}, {250, 0, 1, 0}, {-125, 2, 0, 0}}}, sides{{5, 6}, {-1, 0}, {0, 1}}}
	knot    = system{[]terms{{{1000, 1, 0, 0}, {-1000, 1, 1, 0}}, {{1000, 0, 1, 0}, {-500, 0, 1, 1}}, {{333, 0, 0, 2}, {-333, 1, 0, 1}, {9, 0, 0, 0}}}, sides{{0, 0}, {-2, 2}, {1, 1}}}
)

// goodSystems have nothing wrong with them.
var goodSystems = []system{none, half, back, third, little, square, several, bent, apart, again, turn, swap, mixed, cross, cycle, three, knot}

// parted is a box, and its pieces.
type parted struct {
	b   sides
	all []sides
}

// partings were reckoned apart: sides below 0, above it and across it, of one number, of one width, of several, and of odd ones, whose halves have not one width.
var partings = []parted{
	{sides{{-3000, -1000}}, []sides{
		{{-3000, -2938}}, {{-2938, -2875}}, {{-2875, -2813}}, {{-2813, -2750}}, {{-2750, -2688}}, {{-2688, -2625}}, {{-2625, -2563}}, {{-2563, -2500}},
		{{-2500, -2438}}, {{-2438, -2375}}, {{-2375, -2313}}, {{-2313, -2250}}, {{-2250, -2188}}, {{-2188, -2125}}, {{-2125, -2063}}, {{-2063, -2000}},
		{{-2000, -1938}}, {{-1938, -1875}}, {{-1875, -1813}}, {{-1813, -1750}}, {{-1750, -1688}}, {{-1688, -1625}}, {{-1625, -1563}}, {{-1563, -1500}},
		{{-1500, -1438}}, {{-1438, -1375}}, {{-1375, -1313}}, {{-1313, -1250}}, {{-1250, -1188}}, {{-1188, -1125}}, {{-1125, -1063}}, {{-1063, -1000}},
	}},
	{sides{{1000, 3001}}, []sides{
		{{1000, 1250}}, {{1250, 1500}}, {{1500, 1750}}, {{1750, 2000}}, {{2000, 2250}}, {{2250, 2500}}, {{2500, 2750}}, {{2750, 3001}},
	}},
	{sides{{-1000, 2000}}, []sides{
		{{-1000, -907}}, {{-907, -813}}, {{-813, -719}}, {{-719, -625}}, {{-625, -532}}, {{-532, -438}}, {{-438, -344}}, {{-344, -250}},
		{{-250, -157}}, {{-157, -63}}, {{-63, 31}}, {{31, 125}}, {{125, 218}}, {{218, 312}}, {{312, 406}}, {{406, 500}},
		{{500, 593}}, {{593, 687}}, {{687, 781}}, {{781, 875}}, {{875, 968}}, {{968, 1062}}, {{1062, 1156}}, {{1156, 1250}},
		{{1250, 1343}}, {{1343, 1437}}, {{1437, 1531}}, {{1531, 1625}}, {{1625, 1718}}, {{1718, 1812}}, {{1812, 1906}}, {{1906, 2000}},
	}},
	{sides{{5, 5}}, []sides{
		{{5, 5}}, {{5, 5}}, {{5, 5}}, {{5, 5}},
	}},
	{sides{{-7, 0}}, []sides{
		{{-7, -7}}, {{-7, -6}}, {{-6, -5}}, {{-5, -4}}, {{-4, -3}}, {{-3, -2}}, {{-2, -1}}, {{-1, 0}},
	}},
	{sides{{-1, 0}}, []sides{
		{{-1, -1}}, {{-1, -1}}, {{-1, -1}}, {{-1, 0}},
	}},
	{sides{{0, 1}}, []sides{
		{{0, 0}}, {{0, 0}}, {{0, 0}}, {{0, 0}}, {{0, 0}}, {{0, 0}}, {{0, 0}}, {{0, 1}},
	}},
	{sides{{-1000, 2000}, {5, 5}}, []sides{
		{{-1000, -625}, {5, 5}}, {{-625, -250}, {5, 5}}, {{-250, 125}, {5, 5}}, {{125, 500}, {5, 5}},
		{{500, 875}, {5, 5}}, {{875, 1250}, {5, 5}}, {{1250, 1625}, {5, 5}}, {{1625, 2000}, {5, 5}},
	}},
	{sides{{-4, 4}, {1, 9}}, []sides{
		{{-4, -3}, {1, 3}}, {{-3, -2}, {1, 3}}, {{-4, -3}, {3, 5}}, {{-3, -2}, {3, 5}},
		{{-2, -1}, {1, 3}}, {{-1, 0}, {1, 3}}, {{-2, -1}, {3, 5}}, {{-1, 0}, {3, 5}},
		{{-4, -3}, {5, 7}}, {{-3, -2}, {5, 7}}, {{-4, -3}, {7, 9}}, {{-3, -2}, {7, 9}},
		{{-2, -1}, {5, 7}}, {{-1, 0}, {5, 7}}, {{-2, -1}, {7, 9}}, {{-1, 0}, {7, 9}},
		{{0, 1}, {1, 3}}, {{1, 2}, {1, 3}}, {{0, 1}, {3, 5}}, {{1, 2}, {3, 5}},
		{{2, 3}, {1, 3}}, {{3, 4}, {1, 3}}, {{2, 3}, {3, 5}}, {{3, 4}, {3, 5}},
		{{0, 1}, {5, 7}}, {{1, 2}, {5, 7}}, {{0, 1}, {7, 9}}, {{1, 2}, {7, 9}},
		{{2, 3}, {5, 7}}, {{3, 4}, {5, 7}}, {{2, 3}, {7, 9}}, {{3, 4}, {7, 9}},
	}},
	{sides{{-5, -5}, {7, 7}}, []sides{
		{{-5, -5}, {7, 7}}, {{-5, -5}, {7, 7}}, {{-5, -5}, {7, 7}}, {{-5, -5}, {7, 7}},
	}},
	{sides{{-1500, -999}, {-800, 1733}}, []sides{
		{{-1500, -1250}, {-800, -484}}, {{-1250, -999}, {-800, -484}}, {{-1500, -1250}, {-484, -167}}, {{-1250, -999}, {-484, -167}},
		{{-1500, -1250}, {-167, 149}}, {{-1250, -999}, {-167, 149}}, {{-1500, -1250}, {149, 466}}, {{-1250, -999}, {149, 466}},
		{{-1500, -1250}, {466, 782}}, {{-1250, -999}, {466, 782}}, {{-1500, -1250}, {782, 1099}}, {{-1250, -999}, {782, 1099}},
		{{-1500, -1250}, {1099, 1416}}, {{-1250, -999}, {1099, 1416}}, {{-1500, -1250}, {1416, 1733}}, {{-1250, -999}, {1416, 1733}},
	}},
	{sides{{0, 3}, {-3, 0}}, []sides{
		{{0, 0}, {-3, -2}}, {{0, 1}, {-3, -2}}, {{0, 1}, {-2, -1}}, {{0, 1}, {-1, 0}},
		{{1, 2}, {-3, -2}}, {{2, 3}, {-3, -2}}, {{1, 2}, {-2, 0}}, {{2, 3}, {-2, 0}},
	}},
	{sides{{-8, 8}, {-8, 8}, {-8, 8}}, []sides{
		{{-8, -4}, {-8, 0}, {-8, 0}}, {{-4, 0}, {-8, 0}, {-8, 0}}, {{-8, -4}, {-8, 0}, {0, 8}}, {{-4, 0}, {-8, 0}, {0, 8}},
		{{-8, -4}, {0, 8}, {-8, 0}}, {{-4, 0}, {0, 8}, {-8, 0}}, {{-8, -4}, {0, 8}, {0, 8}}, {{-4, 0}, {0, 8}, {0, 8}},
		{{0, 4}, {-8, 0}, {-8, 0}}, {{4, 8}, {-8, 0}, {-8, 0}}, {{0, 4}, {-8, 0}, {0, 8}}, {{4, 8}, {-8, 0}, {0, 8}},
		{{0, 4}, {0, 8}, {-8, 0}}, {{4, 8}, {0, 8}, {-8, 0}}, {{0, 4}, {0, 8}, {0, 8}}, {{4, 8}, {0, 8}, {0, 8}},
	}},
	{sides{{0, 10}, {0, 10}, {-20, 1}}, []sides{
		{{0, 5}, {0, 5}, {-20, -10}}, {{0, 5}, {5, 10}, {-20, -10}}, {{5, 10}, {0, 5}, {-20, -10}}, {{5, 10}, {5, 10}, {-20, -10}},
		{{0, 5}, {0, 10}, {-10, -5}}, {{5, 10}, {0, 10}, {-10, -5}}, {{0, 5}, {0, 10}, {-5, 1}}, {{5, 10}, {0, 10}, {-5, 1}},
	}},
	{sides{{1, 1}, {-9, -4}, {2, 2}}, []sides{
		{{1, 1}, {-9, -9}, {2, 2}}, {{1, 1}, {-9, -8}, {2, 2}}, {{1, 1}, {-8, -8}, {2, 2}}, {{1, 1}, {-8, -7}, {2, 2}},
		{{1, 1}, {-7, -7}, {2, 2}}, {{1, 1}, {-7, -6}, {2, 2}}, {{1, 1}, {-6, -5}, {2, 2}}, {{1, 1}, {-5, -4}, {2, 2}},
	}},
	{sides{{0, 7}, {100, 105}, {-50, -41}}, []sides{
		{{0, 1}, {100, 102}, {-50, -48}}, {{1, 3}, {100, 102}, {-50, -48}}, {{0, 1}, {100, 102}, {-48, -46}}, {{1, 3}, {100, 102}, {-48, -46}},
		{{0, 1}, {102, 105}, {-50, -48}}, {{1, 3}, {102, 105}, {-50, -48}}, {{0, 1}, {102, 105}, {-48, -46}}, {{1, 3}, {102, 105}, {-48, -46}},
		{{3, 5}, {100, 102}, {-50, -48}}, {{3, 5}, {100, 102}, {-48, -46}}, {{5, 7}, {100, 102}, {-50, -48}}, {{5, 7}, {100, 102}, {-48, -46}},
		{{3, 5}, {102, 105}, {-50, -48}}, {{3, 5}, {102, 105}, {-48, -46}}, {{5, 7}, {102, 105}, {-50, -48}}, {{5, 7}, {102, 105}, {-48, -46}},
		{{0, 1}, {100, 102}, {-46, -44}}, {{1, 3}, {100, 102}, {-46, -44}}, {{0, 1}, {100, 102}, {-44, -41}}, {{1, 3}, {100, 102}, {-44, -41}},
		{{0, 1}, {102, 105}, {-46, -44}}, {{1, 3}, {102, 105}, {-46, -44}}, {{0, 1}, {102, 105}, {-44, -41}}, {{1, 3}, {102, 105}, {-44, -41}},
		{{3, 5}, {100, 102}, {-46, -44}}, {{5, 7}, {100, 102}, {-46, -44}}, {{3, 5}, {100, 102}, {-44, -41}}, {{5, 7}, {100, 102}, {-44, -41}},
		{{3, 5}, {102, 105}, {-46, -44}}, {{5, 7}, {102, 105}, {-46, -44}}, {{3, 5}, {102, 105}, {-44, -41}}, {{5, 7}, {102, 105}, {-44, -41}},
	}},
	{sides{{3, 3}, {-3, -3}, {0, 0}}, []sides{
		{{3, 3}, {-3, -3}, {0, 0}}, {{3, 3}, {-3, -3}, {0, 0}}, {{3, 3}, {-3, -3}, {0, 0}}, {{3, 3}, {-3, -3}, {0, 0}},
	}},
	{sides{{-most, most}}, []sides{
		{{-most, -750000000}}, {{-750000000, -500000000}}, {{-500000000, -250000000}}, {{-250000000, 0}}, {{0, 250000000}}, {{250000000, 500000000}}, {{500000000, 750000000}}, {{750000000, most}},
	}},
	{sides{{most - 1, most}, {-most, most}, {-most, -most}}, []sides{
		{{most - 1, most}, {-most, -875000000}, {-most, -most}}, {{most - 1, most}, {-875000000, -750000000}, {-most, -most}}, {{most - 1, most}, {-750000000, -625000000}, {-most, -most}}, {{most - 1, most}, {-625000000, -500000000}, {-most, -most}},
		{{most - 1, most}, {-500000000, -375000000}, {-most, -most}}, {{most - 1, most}, {-375000000, -250000000}, {-most, -most}}, {{most - 1, most}, {-250000000, -125000000}, {-most, -most}}, {{most - 1, most}, {-125000000, 0}, {-most, -most}},
		{{most - 1, most}, {0, 125000000}, {-most, -most}}, {{most - 1, most}, {125000000, 250000000}, {-most, -most}}, {{most - 1, most}, {250000000, 375000000}, {-most, -most}}, {{most - 1, most}, {375000000, 500000000}, {-most, -most}},
		{{most - 1, most}, {500000000, 625000000}, {-most, -most}}, {{most - 1, most}, {625000000, 750000000}, {-most, -most}}, {{most - 1, most}, {750000000, 875000000}, {-most, -most}}, {{most - 1, most}, {875000000, most}, {-most, -most}},
	}},
}

// joined gives the pieces of one depth less: each is what its two halves are together.
func joined(all [][]api.Span) [][]api.Span {
	var made [][]api.Span
	for i := 0; i < len(all); i += 2 {
		made = append(made, together(all[i:i+2]))
	}
	return made
}

// together gives the least box that has some boxes.
func together(all [][]api.Span) []api.Span {
	made := slices.Clone(all[0])
	for _, b := range all[1:] {
		for k, side := range b {
			made[k] = api.Span{Lo: min(made[k].Lo, side.Lo), Hi: max(made[k].Hi, side.Hi)}
		}
	}
	return made
}

// TestPieces asks of each of these, and of all depths that are less.
func TestPieces(t *testing.T) {
	for _, p := range partings {
		all, depth := boxes(p.all), 0
		for 1<<depth < len(all) {
			depth++
		}
		for ; depth > 0; depth-- {
			checkPieces(t, p.b.box(), depth, all, api.OK)
			all = joined(all)
		}
		checkPieces(t, p.b.box(), 0, all, api.OK)
		if !sameLists(all, boxes([]sides{p.b})) {
			t.Errorf("the pieces of %v are %v together", p.b, all)
		}
	}
}

// deepest is the greatest depth that may be.
const deepest = 5

// meantPieces is what the chapter says of Pieces: those of the first half, and behind them those of the second.
func meantPieces(b []api.Span, depth int) [][]api.Span {
	if depth == 0 {
		return [][]api.Span{b}
	}
	first, second := meantHalves(b)
	return append(meantPieces(first, depth-1), meantPieces(second, depth-1)...)
}

// meantHalves parts the first side that no other is wider than.
func meantHalves(b []api.Span) (first, second []api.Span) {
	at := slices.IndexFunc(b, func(one api.Span) bool {
		return !slices.ContainsFunc(b, func(other api.Span) bool { return other.Hi-other.Lo > one.Hi-one.Lo })
	})
	middle := (b[at].Lo + b[at].Hi) >> 1
	first, second = slices.Clone(b), slices.Clone(b)
	first[at].Hi, second[at].Lo = middle, middle
	return first, second
}

// manySides are sides near and far, of each kind.
var manySides = sides{{-3000, -1000}, {-8, -1}, {-5, 7}, {0, 0}, {3, 3}, {0, 1}, {4, 17}, {500, 1501}, {-most, most}, {most - 3, most}, {-most, -most}}

// TestPiecesAll goes over all boxes of such sides, at each depth.
func TestPiecesAll(t *testing.T) {
	for _, b := range lists(manySides.box(), 3)[1:] {
		for depth := range deepest + 1 {
			checkPieces(t, b, depth, meantPieces(b, depth), api.OK)
		}
	}
}

// has tells whether numbers are in a box.
func has(b []api.Span, x []int) bool {
	for k, side := range b {
		if x[k] < side.Lo || x[k] > side.Hi {
			return false
		}
	}
	return true
}

// pointsOf gives all numbers of a box.
func pointsOf(b []api.Span) [][]int {
	all := [][]int{nil}
	for _, side := range b {
		var next [][]int
		for _, x := range all {
			for n := side.Lo; n <= side.Hi; n++ {
				next = append(next, append(slices.Clone(x), n))
			}
		}
		all = next
	}
	return all
}

// TestPiecesHaveAll asks, of each number of small boxes, and of those around them, whether a piece has it: so it is of the box's own, and of no others.
func TestPiecesHaveAll(t *testing.T) {
	for _, b := range lists(sides{{-9, -3}, {-4, 4}, {-2, 3}, {6, 6}, {0, 1}}.box(), 3)[1:] {
		around := slices.Clone(b)
		for k := range around {
			around[k].Lo--
			around[k].Hi++
		}
		points := pointsOf(around)
		for depth := range deepest + 1 {
			all, err := cover.Pieces(b, depth)
			if err != nil || len(all) != 1<<depth {
				t.Fatalf("Pieces(%v, %d) = %v, %v", b, depth, all, err)
			}
			for _, x := range points {
				in := slices.ContainsFunc(all, func(piece []api.Span) bool { return has(piece, x) })
				if in != has(b, x) {
					t.Errorf("Pieces(%v, %d) = %v, and of %v one has it: %v", b, depth, all, x, in)
				}
			}
		}
	}
}

// stepped is a system, a box, and what may be next piece by piece, from depth 0 on; deeper ones tell the same as the last.
type stepped struct {
	s    system
	b    sides
	next []sides
}

// at gives what may be next at a depth.
func (p stepped) at(depth int) sides { return p.next[min(depth, len(p.next)-1)] }

// steps were reckoned apart, in exact numbers.
var steps = []stepped{
	{none, sides{{5, 7}}, []sides{{{-30, 10}}}},
	{half, sides{{-3000, -1000}}, []sides{{{-1510, -480}}}},
	{half, sides{{1000, 3000}}, []sides{{{490, 1520}}}},
	{half, sides{{1000, 1000}}, []sides{{{490, 520}}}},
	{back, sides{{-1000, 2000}}, []sides{{{-997, 503}}}},
	{third, sides{{-1001, 998}}, []sides{{{-334, 333}}}},
	{little, sides{{1, 1}}, []sides{{{-8, 7}}}},
	{square, sides{{-1000, 500}}, []sides{{{-751, 251}}}},
	{several, sides{{-796, 236}}, []sides{{{-948, -468}}, {{-948, -468}}, {{-948, -468}}, {{-948, -472}}, {{-948, -473}}}},
	{bent, sides{{-1000, 2001}}, []sides{{{-2001, 5005}}, {{-1751, 3505}}, {{-1000, 2755}}, {{-625, 2380}}, {{-437, 2192}}, {{-343, 2098}}}},
	{bent, sides{{0, 1000}}, []sides{{{-1000, 1000}}, {{-750, 500}}, {{-500, 250}}, {{-375, 125}}, {{-312, 63}}, {{-281, 32}}}},
	{apart, sides{{-700, 700}}, []sides{{{-1400, 1400}}, {{-700, 700}}, {{-350, 350}}, {{-175, 175}}, {{-88, 88}}, {{-44, 44}}}},
	{apart, sides{{3, 10}}, []sides{{{-7, 7}}, {{-4, 4}}, {{-2, 2}}, {{-1, 1}}}},
	{turn, sides{{1000, 2000}, {-1000, 1000}}, []sides{{{695, 2005}, {-1290, 710}}}},
	{turn, sides{{1000, 1000}, {-1000, -1000}}, []sides{{{695, 705}, {-1090, -1090}}}},
	{swap, sides{{1, 2}, {-40, -30}}, []sides{{{-39, -29}, {21, 22}}}},
	{mixed, sides{{-1000, 2000}, {3000, 3001}}, []sides{{{-2, 3}, {-2994, 6010}}}},
	{cross, sides{{-1000, 2000}, {-1500, 1501}}, []sides{{{-5003, 4006}, {-2502, 5754}}, {{-5003, 4006}, {-2502, 5750}}, {{-5003, 2506}, {-2502, 5750}}, {{-5003, 2506}, {-1940, 5750}}, {{-5003, 2504}, {-1940, 5750}}, {{-5003, 2504}, {-1237, 5750}}}},
	{cross, sides{{700, 700}, {-1500, -501}}, []sides{{{-1753, -1046}, {1101, 3800}}}},
	{cycle, sides{{1000, 2000}, {-3000, -1000}, {0, 500}}, []sides{{{-3001, -999}, {0, 500}, {-2998, 3}}}},
	{three, sides{{-1000, 2000}, {9, 9}, {3000, 4000}}, []sides{{{5, 6}, {-4001, 8000}, {-491, 11}}}},
	{knot, sides{{-1000, 1000}, {0, 2000}, {500, 501}}, []sides{{{-3000, 3000}, {-503, 2002}, {-74, 261}}, {{-2000, 2000}, {-503, 2002}, {-74, 261}}, {{-2000, 2000}, {-253, 1752}, {-74, 261}}, {{-1500, 1500}, {-253, 1752}, {-74, 261}}, {{-1500, 1500}, {-128, 1627}, {-74, 261}}, {{-1250, 1250}, {-128, 1627}, {-74, 261}}}},
	{knot, sides{{-3, 4}, {-1200, 800}, {-900, 905}}, []sides{{{-7, 9}, {-1742, 1345}, {8, 286}}, {{-7, 9}, {-1742, 1162}, {8, 286}}, {{-7, 9}, {-1742, 1162}, {8, 285}}, {{-7, 9}, {-1742, 1162}, {8, 285}}, {{-7, 9}, {-1742, 1162}, {9, 285}}}},
}

func TestStep(t *testing.T) {
	for _, p := range steps {
		for depth := range deepest + 1 {
			checkStep(t, p.s.system(), p.b.box(), depth, p.at(depth).box(), api.OK)
		}
	}
}

// fulls tell ErrFull where it says nil.
var fulls = []stepped{
	// By the last piece alone, by the first alone, and by one between others: also where all others tell none.
	{system{[]terms{ofX}, sides{{0, 1}}}, sides{{0, most}}, []sides{nil}},
	{system{[]terms{ofX}, sides{{-1, 0}}}, sides{{-most, 0}}, []sides{nil}},
	{system{[]terms{{{most, 0, 0, 0}, {-1000, 2, 0, 0}}}, sides{{1, 1}}}, sides{{-1000, 2000}}, []sides{nil}},
	{square, sides{{-1000000, 1000001}}, []sides{nil}},
	{square, sides{{-1000001, 1000000}}, []sides{nil}},
	{square, sides{{-1000000, 1000000}}, []sides{{{-751, 999999251}}}},
	{system{[]terms{{{1000, 1, 1, 0}}, nil}, make(sides, 2)}, sides{{0, 1000000}, {0, 1000001}}, []sides{nil}},
	{system{[]terms{{{1000, 1, 1, 0}}, nil}, make(sides, 2)}, sides{{0, 1000000}, {0, 1000000}}, []sides{{{0, most}, {0, 0}}}},
	// By the whole box alone, wherever the polynomial stands.
	{apart, sides{{-most, most}}, []sides{nil, {{-most, most}}, {{-500000000, 500000000}}, {{-250000000, 250000000}}, {{-125000000, 125000000}}, {{-62500000, 62500000}}}},
	{apart, sides{{-500000000, 500000001}}, []sides{nil, {{-500000001, 500000001}}, {{-250000001, 250000001}}, {{-125000001, 125000001}}, {{-62500001, 62500001}}, {{-31250001, 31250001}}}},
	{apart, sides{{-500000000, 500000000}}, []sides{{{-most, most}}, {{-500000000, 500000000}}, {{-250000000, 250000000}}, {{-125000000, 125000000}}, {{-62500000, 62500000}}, {{-31250000, 31250000}}}},
	{system{[]terms{nil, {{1000, 0, 1, 0}, {-1000, 0, 1, 0}}}, make(sides, 2)}, sides{{7, 9}, {-most, most}}, []sides{nil, {{0, 0}, {-most, most}}, {{0, 0}, {-500000000, 500000000}}, {{0, 0}, {-250000000, 250000000}}, {{0, 0}, {-125000000, 125000000}}, {{0, 0}, {-62500000, 62500000}}}},
	{system{[]terms{nil, nil, {{1000, 1, 0, 0}, {-1000, 1, 0, 0}}}, sides{{0, 0}, {0, 0}, {-5, 5}}}, sides{{-500000000, 500000000}, {1, 1}, {2, 2}}, []sides{nil, {{0, 0}, {0, 0}, {-500000005, 500000005}}, {{0, 0}, {0, 0}, {-250000005, 250000005}}, {{0, 0}, {0, 0}, {-125000005, 125000005}}, {{0, 0}, {0, 0}, {-62500005, 62500005}}, {{0, 0}, {0, 0}, {-31250005, 31250005}}}},
	// At several depths, up to the last but one, and at all.
	{system{[]terms{nil, {{1000, 0, 1, 0}, {-1000, 0, 1, 0}}}, make(sides, 2)}, sides{{-most, most}, {-900000000, 900000000}}, []sides{nil, nil, {{0, 0}, {-900000000, 900000000}}, {{0, 0}, {-900000000, 900000000}}, {{0, 0}, {-450000000, 450000000}}}},
	{again, sides{{-750000000, 750000000}}, []sides{nil, nil, nil, {{-375000000, 375000000}}, {{-187500000, 187500000}}, {{-93750000, 93750000}}}},
	{again, sides{{-941176470, 941176470}}, []sides{nil, nil, nil, nil, nil, {{-117647060, 117647060}}}},
	{again, sides{{-941176472, 941176472}}, []sides{nil}},
}

// TestStepFull sees that ErrFull is told where one piece tells it, and not where Of of the whole box would tell it and no piece does.
func TestStepFull(t *testing.T) {
	for _, p := range fulls {
		s, b := p.s.system(), p.b.box()
		if _, err := step.Of(s, b); (plain.Told(err) == api.ErrFull) != (p.at(0) == nil) {
			t.Errorf("Of(%v, %v) tells %v", s, b, err)
		}
		for depth := range deepest + 1 {
			told := api.OK
			if p.at(depth) == nil {
				told = api.ErrFull
			}
			checkStep(t, s, b, depth, p.at(depth).box(), told)
		}
	}
}

// within tells whether each side of a is within that of b.
func within(a, b []api.Span) bool {
	for k, side := range a {
		if side.Lo < b[k].Lo || side.Hi > b[k].Hi {
			return false
		}
	}
	return len(a) == len(b)
}

// TestStepNoWider sees that at depth 0 it is what Of tells of the whole box, and deeper nowhere wider than one depth less.
func TestStepNoWider(t *testing.T) {
	places := sides{{-1500, -999}, {-7, 0}, {-800, 1733}, {0, 999}, {1234, 1234}, {501, 1000}}.box()
	for _, g := range goodSystems {
		for _, b := range lists(places, 3) {
			if len(b) != len(g.next) {
				continue
			}
			last, err := step.Of(g.system(), b)
			if err != nil {
				t.Fatalf("Of(%v, %v) tells %v", g, b, err)
			}
			checkStep(t, g.system(), b, 0, last, api.OK)
			for depth := 1; depth <= deepest; depth++ {
				next, err := cover.Step(g.system(), b, depth)
				if err != nil || !within(next, last) {
					t.Errorf("Step(%v, %v, %d) = %v, %v, which is not within %v", g, b, depth, next, err, last)
				}
				last = next
			}
		}
	}
}

// TestStepHasPoints sees that at each depth it has what Point tells of each number of small boxes, with pushes at the ends of their spans and inside.
func TestStepHasPoints(t *testing.T) {
	for _, g := range goodSystems {
		for _, b := range lists(sides{{-1502, -1497}, {-4, 3}, {7, 7}, {996, 1001}}.box(), 3) {
			if len(b) == len(g.next) {
				hasPoints(t, g.system(), b, pointsOf(b))
			}
		}
	}
}

// TestStepHasSome likewise, of some numbers of wide boxes.
func TestStepHasSome(t *testing.T) {
	for _, g := range goodSystems {
		for _, b := range lists(sides{{-1500, 2001}, {-999, 0}, {0, 3333}}.box(), 3) {
			if len(b) == len(g.next) {
				hasPoints(t, g.system(), b, someOf(b))
			}
		}
	}
}

// someOf gives numbers of a box: of each side the ends, and some between.
func someOf(b []api.Span) [][]int {
	var some [][]int
	for _, parts := range lists([]int{0, 1, 7, 20, 32, 61, 64}, len(b)) {
		var x []int
		for k, part := range parts {
			x = append(x, b[k].Lo+(b[k].Hi-b[k].Lo)*part/64)
		}
		if len(x) == len(b) {
			some = append(some, x)
		}
	}
	return some
}

func hasPoints(t *testing.T, s api.System, b []api.Span, points [][]int) {
	t.Helper()
	for depth := range deepest + 1 {
		all, err := cover.Step(s, b, depth)
		if err != nil {
			t.Fatalf("Step(%v, %v, %d) tells %v", s, b, depth, err)
		}
		for i, x := range points {
			var push []int
			for k, span := range s.Push {
				push = append(push, []int{span.Lo, span.Hi, (span.Lo + span.Hi) >> 1}[(i+k)%3])
			}
			next, err := step.Point(s, x, push)
			if err != nil || !has(all, next) {
				t.Errorf("Step(%v, %v, %d) = %v, and Point(%v, %v), %v, %v, is not in that", s, b, depth, all, x, push, next, err)
			}
		}
	}
}

// wrongSystems are systems with a fault, and which; where several are wrong with one, what is told first.
var wrongSystems = []struct {
	s    system
	told api.Errno
}{
	// No polynomial, and too many, whatever there is of pushes.
	{system{}, api.ErrNone},
	{system{[]terms{}, sides{}}, api.ErrNone},
	{system{nil, sides{{1, 0}, {0, most + 1}}}, api.ErrNone},
	{system{make([]terms, 4), make(sides, 4)}, api.ErrFull},
	{system{make([]terms, 1000), nil}, api.ErrFull},
	{system{[]terms{{{most + 1, 0, 0, 0}}, nil, nil, ofY}, sides{{1, 0}}}, api.ErrFull},
	// Not as many pushes, whatever else is wrong.
	{system{[]terms{ofX}, nil}, api.ErrShape},
	{system{[]terms{ofX}, sides{{0, 0}, {0, 0}}}, api.ErrShape},
	{system{[]terms{ofX, ofY}, sides{{0, most + 1}}}, api.ErrShape},
	{system{[]terms{ofX, make(terms, 7), ofZ}, sides{{0, 0}, {0, 0}}}, api.ErrShape},
	{system{[]terms{ofX, ofY, ofZ}, make(sides, 4)}, api.ErrShape},
	// A polynomial, by each of its faults, wherever it stands.
	{system{[]terms{make(terms, 7)}, sides{{0, 0}}}, api.ErrFull},
	{system{[]terms{nil, nil, make(terms, 1000)}, sides{{0, 0}, {0, 0}, {0, 0}}}, api.ErrFull},
	{system{[]terms{{{most + 1, 0, 0, 0}}}, sides{{0, 0}}}, api.ErrRange},
	{system{[]terms{nil, {{1, 0, 0, 0}, {math.MinInt, 0, 0, 0}}}, sides{{0, 0}, {0, 0}}}, api.ErrRange},
	{system{[]terms{nil, nil, {{math.MaxInt, 0, 0, 0}}}, sides{{0, 0}, {0, 0}, {0, 0}}}, api.ErrRange},
	{system{[]terms{{{1, -1, 0, 0}}}, sides{{0, 0}}}, api.ErrRange},
	{system{[]terms{{{1, 4, 0, 0}}}, sides{{0, 0}}}, api.ErrRange},
	{system{[]terms{nil, {{1, 2, 2, 0}}}, sides{{0, 0}, {0, 0}}}, api.ErrRange},
	{system{[]terms{{{1, math.MaxInt, math.MaxInt, 2}}, nil, nil}, sides{{0, 0}, {0, 0}, {0, 0}}}, api.ErrRange},
	{system{[]terms{nil, nil, {{1, 0, math.MinInt, 0}}}, sides{{0, 0}, {0, 0}, {0, 0}}}, api.ErrRange},
	{system{[]terms{ofY}, sides{{0, 0}}}, api.ErrShape},
	{system{[]terms{ofX, ofZ}, sides{{0, 0}, {0, 0}}}, api.ErrShape},
	// Several polynomials: the first one's is told.
	{system{[]terms{ofZ, make(terms, 7)}, sides{{0, 0}, {0, 0}}}, api.ErrShape},
	{system{[]terms{make(terms, 7), {{most + 1, 0, 0, 0}}}, sides{{0, 0}, {0, 0}}}, api.ErrFull},
	{system{[]terms{{{1, 4, 0, 0}}, make(terms, 7)}, sides{{0, 0}, {0, 0}}}, api.ErrRange},
	// A Push, by each of its faults, wherever it stands, and behind a polynomial's.
	{system{[]terms{ofX}, sides{{1, 0}}}, api.ErrShape},
	{system{[]terms{ofX}, sides{{0, most + 1}}}, api.ErrRange},
	{system{[]terms{ofX}, sides{{math.MaxInt, math.MinInt}}}, api.ErrRange},
	{system{[]terms{ofX, ofY}, sides{{0, 0}, {0, -1}}}, api.ErrShape},
	{system{[]terms{ofX, ofY}, sides{{1, 0}, {math.MinInt, 0}}}, api.ErrShape},
	{system{[]terms{ofX, ofY, ofZ}, sides{{0, 0}, {math.MinInt, 0}, {1, 0}}}, api.ErrRange},
	{system{[]terms{ofX, make(terms, 7)}, sides{{1, 0}, {0, 0}}}, api.ErrFull},
	{system{[]terms{ofY}, sides{{0, most + 1}}}, api.ErrShape},
}

// wrongBoxes are boxes with a fault, and which.
var wrongBoxes = []struct {
	b    sides
	told api.Errno
}{
	{nil, api.ErrNone},
	{sides{}, api.ErrNone},
	{sides{{0, 1}, {0, 1}}[:0], api.ErrNone},
	{sides{{0, 1}, {0, 1}, {0, 1}, {0, 1}}, api.ErrFull},
	{sides{{1, 0}, {0, most + 1}, {0, 1}, {0, 1}}, api.ErrFull},
	{make(sides, 1000), api.ErrFull},
	{sides{{1, 0}}, api.ErrShape},
	{sides{{0, most + 1}}, api.ErrRange},
	{sides{{math.MinInt, math.MaxInt}}, api.ErrRange},
	{sides{{math.MaxInt, math.MinInt}}, api.ErrRange},
	{sides{{0, 1}, {1, 0}}, api.ErrShape},
	{sides{{-most - 1, 0}, {1, 0}}, api.ErrRange},
	{sides{{0, 1}, {1, 0}, {0, most + 1}}, api.ErrShape},
	{sides{{0, 1}, {0, 1}, {math.MinInt, 0}}, api.ErrRange},
}

// goodBoxes have nothing wrong with them, of each number of sides; of the last ones most steps are beyond what may be.
var goodBoxes = []sides{
	{{-1000, 2000}}, {{-1000, 2000}, {5, 5}}, {{-1000, 2000}, {5, 5}, {-9, -7}},
	{{most, most}}, {{-most, most}, {most, most}}, {{-most, most}, {most, most}, {-most, -most}},
}

// goodDepths may be, wrongDepths may not.
var (
	goodDepths  = []int{0, 1, 2, 3, 4, 5}
	wrongDepths = []int{-1, -2, -5, 6, 7, 32, 1000, most, math.MinInt, math.MinInt + 1, math.MaxInt}
	allDepths   = slices.Concat(goodDepths, wrongDepths)
)

// TestPiecesWrong sees that what is wrong with the box is told, whatever the depth, then what is wrong with that.
func TestPiecesWrong(t *testing.T) {
	for _, w := range wrongBoxes {
		for _, depth := range allDepths {
			checkPieces(t, w.b.box(), depth, nil, w.told)
		}
	}
	for _, b := range goodBoxes {
		for _, depth := range wrongDepths {
			checkPieces(t, b.box(), depth, nil, api.ErrRange)
		}
	}
}

// TestStepWrongSystem sees that what is wrong with the system is told, whatever the box and the depth.
func TestStepWrongSystem(t *testing.T) {
	for _, w := range wrongSystems {
		for _, depth := range allDepths {
			for _, g := range goodBoxes {
				checkStep(t, w.s.system(), g.box(), depth, nil, w.told)
			}
			for _, v := range wrongBoxes {
				checkStep(t, w.s.system(), v.b.box(), depth, nil, w.told)
			}
		}
	}
}

// TestStepWrongBox sees that what is wrong with the box is told, whatever the depth.
func TestStepWrongBox(t *testing.T) {
	for _, g := range goodSystems {
		for _, w := range wrongBoxes {
			for _, depth := range allDepths {
				checkStep(t, g.system(), w.b.box(), depth, nil, w.told)
			}
		}
	}
}

// TestStepDepth sees that a wrong depth is told, whether there are as many sides or not, and ahead of what is beyond what may be.
func TestStepDepth(t *testing.T) {
	for _, g := range goodSystems {
		for _, b := range goodBoxes {
			for _, depth := range wrongDepths {
				checkStep(t, g.system(), b.box(), depth, nil, api.ErrRange)
			}
		}
	}
}

// TestStepShape asks with sides too few and too many: also where it would be beyond what may be.
func TestStepShape(t *testing.T) {
	for _, g := range append(goodSystems, system{[]terms{{{most, 0, 0, 0}}}, sides{{1, 1}}}) {
		for _, b := range goodBoxes {
			for _, depth := range goodDepths {
				if len(b) != len(g.next) {
					checkStep(t, g.system(), b.box(), depth, nil, api.ErrShape)
				}
			}
		}
	}
}

// meantStep is what the chapter says of Step, by what chapter 12's own tests hold of one piece.
func meantStep(s api.System, b []api.Span, depth int) ([]api.Span, api.Errno) {
	if err := step.Check(s); err != nil {
		return nil, plain.Told(err)
	}
	pieces, told := meantOfPieces(b, depth)
	if told != api.OK {
		return nil, told
	}
	if len(b) != len(s.Next) {
		return nil, api.ErrShape
	}
	var all [][]api.Span
	for _, piece := range pieces {
		next, err := step.Of(s, piece)
		if err != nil {
			return nil, api.ErrFull
		}
		all = append(all, next)
	}
	return together(all), api.OK
}

// meantOfPieces is what the chapter says of Pieces, with what is wrong.
func meantOfPieces(b []api.Span, depth int) ([][]api.Span, api.Errno) {
	if len(b) == 0 {
		return nil, api.ErrNone
	}
	if len(b) > 3 {
		return nil, api.ErrFull
	}
	for _, side := range b {
		if min(side.Lo, side.Hi) < -most || max(side.Lo, side.Hi) > most {
			return nil, api.ErrRange
		}
		if side.Lo > side.Hi {
			return nil, api.ErrShape
		}
	}
	if depth < 0 || depth > deepest {
		return nil, api.ErrRange
	}
	return meantPieces(b, depth), api.OK
}

// checkMeant holds both calls against what is meant.
func checkMeant(t *testing.T, s api.System, b []api.Span, depth int) {
	t.Helper()
	pieces, told := meantOfPieces(b, depth)
	checkPieces(t, b, depth, pieces, told)
	next, told := meantStep(s, b, depth)
	checkStep(t, s, b, depth, next, told)
}

// lists gives all lists of up to some things out of all.
func lists[T any](all []T, upTo int) [][]T {
	made, last := [][]T{nil}, [][]T{nil}
	for range upTo {
		var next [][]T
		for _, l := range last {
			for _, one := range all {
				next = append(next, append(slices.Clone(l), one))
			}
		}
		made, last = append(made, next...), next
	}
	return made
}

// edgeForms are polynomials of up to three unknowns, near and far.
var edgeForms = []terms{
	nil, {{7, 0, 0, 0}}, ofX, {{-333, 0, 1, 0}}, {{-333, 1, 0, 1}, {1, 0, 2, 0}}, {{2000, 1, 0, 0}, {-far, 0, 0, 0}},
	{{1000, 1, 0, 0}, {-1000, 1, 0, 0}}, {{most, 0, 1, 0}}, {{1, 0, 0, 0}, {1, 4, 0, 0}},
}

// edgeSystems gives all systems of up to three of these, each with other pushes.
func edgeSystems() []api.System {
	pushes := sides{{0, 0}, {-9, 4}, {-most, most}, {3, 3}, {most - 5, most}, {-most, -most + 5}, {2, 1}}
	var forms [][]api.Term
	for _, l := range edgeForms {
		forms = append(forms, l.form())
	}
	var all []api.System
	for i, next := range lists(forms, 3) {
		s := api.System{Next: next}
		for j := range next {
			// As all pushes with all polynomials would be many, others come each time; the last one is wrong, and comes seldom.
			at := (i*(j+1) + i/7 + j) % len(pushes)
			if at == len(pushes)-1 && i%3 > 0 {
				at = j
			}
			s.Push = append(s.Push, pushes[at:at+1].box()...)
		}
		all = append(all, s)
	}
	return all
}

// TestAllOfEdges goes over all such systems, over boxes whose sides are below 0, above it, across it, of one number, and wrong.
func TestAllOfEdges(t *testing.T) {
	over := lists(sides{{-3000, -1000}, {-5, 7}, {1733, 1733}, {-most, most}, {1, 0}}.box(), 3)
	depths := []int{0, 1, 2, 3, 0, 1, 2, 4, 5, 0, 1, math.MinInt, 6}
	for i, s := range edgeSystems() {
		for j, b := range over {
			// Most boxes have other sides than a system, and then all depths tell the same.
			if len(b) == len(s.Next) || (i+j)%5 == 0 {
				checkMeant(t, s, b, depths[(i+j)%len(depths)])
			}
		}
	}
}

// TestAllOfFar goes over all numbers at which something turns, as depth, as By, as times and as ends.
func TestAllOfFar(t *testing.T) {
	edges := []int{math.MinInt, math.MinInt + 1, -most - 1, -most, -far, -1, 0, 1, 3, 4, 5, 6, far, most, most + 1, math.MaxInt}
	for _, n := range edges {
		for _, m := range edges {
			for _, s := range []api.System{
				system{[]terms{{{n, 1, 0, 0}}}, sides{{0, 0}}}.system(),
				system{[]terms{{{5, m, 0, 0}}}, sides{{0, 0}}}.system(),
				system{[]terms{{{1000, 1, 0, 0}}}, sides{{n, m}}}.system(),
				apart.system(),
				none.system(),
			} {
				checkMeant(t, s, sides{{n, m}}.box(), 2)
				checkMeant(t, s, sides{{m, m}}.box(), n)
				checkMeant(t, s, sides{{-far, m}}.box(), n)
			}
		}
	}
}

// TestShared asks with one list at several places: that makes no difference, and none of them is what is told.
func TestShared(t *testing.T) {
	f := terms{{1000, 1, 0, 0}, {-1000, 0, 1, 0}}.form()
	spans := sides{{-5, 5}, {1, 2}}.box()
	s := api.System{Next: [][]api.Term{f, f}, Push: spans}
	for range 3 {
		all, err := cover.Pieces(spans, 1)
		if want := boxes([]sides{{{-5, 0}, {1, 2}}, {{0, 5}, {1, 2}}}); !sameLists(all, want) || err != nil {
			t.Errorf("Pieces(%v, 1) = %v, %v; want %v", spans, all, err, want)
		}
		for depth := range deepest + 1 {
			next, err := cover.Step(s, spans, depth)
			if want := (sides{{-12, 9}, {-6, 6}}).box(); !slices.Equal(next, want) || err != nil {
				t.Errorf("Step(%v, %v, %d) = %v, %v; want %v", s, spans, depth, next, err, want)
			}
			spoil(next, api.Span{Lo: behind})
		}
		spoilLists(all, func(i int) api.Span { return api.Span{Lo: i} })
	}
}

// TestFresh sees that what a call told before is not written over by a later one.
func TestFresh(t *testing.T) {
	s, b := cross.system(), sides{{-1000, 2000}, {-1500, 1501}}.box()
	all, _ := cover.Pieces(b, 1)
	next, _ := cover.Step(s, b, 2)
	for range 3 {
		// What was told is handed in as well, as a caller does that goes on from there.
		others, _ := cover.Pieces(all[1], 1)
		spoilLists(others, func(i int) api.Span { return api.Span{Lo: i} })
		for depth := range deepest + 1 {
			further, _ := cover.Step(s, next, depth)
			spoil(further, api.Span{Lo: behind})
			further, _ = cover.Step(s, all[0], depth)
			spoil(further, api.Span{Lo: behind})
		}
	}
	wantAll := boxes([]sides{{{-1000, 2000}, {-1500, 0}}, {{-1000, 2000}, {0, 1501}}})
	wantNext := sides{{-5003, 2506}, {-2502, 5750}}.box()
	if !sameLists(all, wantAll) || !slices.Equal(next, wantNext) {
		t.Errorf("what was told as %v and %v is now %v and %v", wantAll, wantNext, all, next)
	}
}

// TestAgain asks the same again, behind other calls: what is told hangs on what is handed in alone.
func TestAgain(t *testing.T) {
	s, b := cross.system(), sides{{-1000, 2000}, {-1500, 1501}}.box()
	for range 3 {
		checkPieces(t, b, 1, boxes([]sides{{{-1000, 2000}, {-1500, 0}}, {{-1000, 2000}, {0, 1501}}}), api.OK)
		checkStep(t, s, b, 2, sides{{-5003, 2506}, {-2502, 5750}}.box(), api.OK)
		checkPieces(t, b, 6, nil, api.ErrRange)
		checkStep(t, s, b, -1, nil, api.ErrRange)
		checkStep(t, s, b[:1], 1, nil, api.ErrShape)
		checkStep(t, apart.system(), sides{{-most, most}}.box(), 0, nil, api.ErrFull)
	}
}

// timesThatMayBe gives how often three unknowns may stand in a Term.
func timesThatMayBe() [][3]int {
	var l [][3]int
	for _, times := range lists([]int{0, 1, 2, 3}, 3) {
		if len(times) == 3 && times[0]+times[1]+times[2] <= 3 {
			l = append(l, [3]int(times))
		}
	}
	return l
}

// madeUp is a system of so many polynomials, out of some numbers and whatever pick picks.
func madeUp(many int, pick uint32, numbers []int) api.System {
	good := timesThatMayBe()
	s := api.System{Next: make([][]api.Term, many), Push: make([]api.Span, many)}
	rest := pick
	for i := range s.Next {
		s.Next[i] = make([]api.Term, rest%8)
		for j := range s.Next[i] {
			rest = rest/3 + pick + uint32(i+j)
			times := good[int(rest)%len(good)]
			// Most Terms would have unknowns that are not there, were they not left out here.
			for k := many; k < len(times) && rest%31 > 0; k++ {
				times[k] = 0
			}
			s.Next[i][j] = api.Term{By: numbers[(i+j)%len(numbers)], Times: times}
		}
		lo, hi := numbers[(i+1)%len(numbers)], numbers[(2*i+2)%len(numbers)]
		s.Push[i] = api.Span{Lo: min(lo, hi), Hi: max(lo, hi)}
	}
	return s
}

// FuzzCover holds systems of up to four unknowns, over any box, at any depth, against what is meant.
func FuzzCover(f *testing.F) {
	f.Add(uint8(2), uint8(2), uint32(1), 3, -500, 250, 7, -4000, -3998, -3551, -551)
	f.Add(uint8(3), uint8(3), uint32(987654321), 5, 1, -2, 3, -1000, 2000, 5, -7)
	f.Add(uint8(4), uint8(0), uint32(0), math.MinInt, math.MinInt, math.MaxInt, 0, math.MaxInt, math.MinInt, 0, 1)
	f.Fuzz(func(t *testing.T, many, wide uint8, pick uint32, depth, a, b, c, p, q, r, s int) {
		for _, bound := range []int{math.MaxInt, most + 2, far + 2, 700} {
			// Most ints are none that may be, and most products are beyond it, so they are brought near as well.
			numbers := []int{a % bound, b % bound, c % bound, p % bound, q % bound, r % bound, s % bound}
			for _, sides := range []int{int(wide % 5), int(many % 5)} {
				made := madeUp(int(many%5), pick, numbers)
				over := make([]api.Span, sides)
				for i := range over {
					lo, hi := numbers[3+i%4], numbers[3+(i+1)%4]
					over[i] = api.Span{Lo: min(lo, hi), Hi: max(lo, hi)}
				}
				checkMeant(t, made, over, depth)
				checkMeant(t, made, over, depth%7)
			}
		}
	})
}
