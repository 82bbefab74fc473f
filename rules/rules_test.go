// Package rules tests what holds everywhere: the faces of the layers, and the numbers and errors of package api.
package rules

import (
	"errors"
	"testing"

	"spanmeadow/api"
	"spanmeadow/box"
	"spanmeadow/center"
	"spanmeadow/cover"
	"spanmeadow/flow"
	"spanmeadow/form"
	"spanmeadow/hold"
	"spanmeadow/log"
	"spanmeadow/mono"
	"spanmeadow/narrow"
	"spanmeadow/near"
	"spanmeadow/newton"
	"spanmeadow/plain"
	"spanmeadow/poly"
	"spanmeadow/power"
	"spanmeadow/root"
	"spanmeadow/run"
	"spanmeadow/safe"
	"spanmeadow/span"
	"spanmeadow/split"
	"spanmeadow/step"
	"spanmeadow/unit"
)

// The kinds of calls that several chapters list.
type (
	twoNumbers  = func(int, int) (int, int, error)
	twoSpans    = func(a, b api.Span) (api.Span, error)
	threeSpans  = func(x, y, z api.Span) (api.Span, api.Span, api.Span, error)
	twoBoxes    = func(a, b []api.Span) ([]api.Span, error)
	overSpan    = func([]int, api.Span) (api.Span, error)
	asksSpan    = func([]int, api.Span) (bool, error)
	asksNext    = func(api.System, []api.Span) (bool, error)
	boxesOfStep = func(api.System, []api.Span, int) ([][]api.Span, error)
)

// The faces, as the chapters list them: where one is another, this file does not build.
var (
	_, _    twoNumbers                                                 = unit.Times, unit.By
	_       func(int) (string, error)                                  = unit.Print
	_       func(string) (int, error)                                  = unit.Parse
	_       func(api.Span) error                                       = span.Check
	_, _, _ twoSpans                                                   = span.Add, span.Less, span.Times
	_, _, _ twoSpans                                                   = span.By, span.Hull, span.Meet
	_       func(api.Span, int) (api.Span, error)                      = power.Of
	_       func(api.Span) (int, int, error)                           = power.Far
	_       func(api.Span) (int, error)                                = power.Middle
	_       func([]int) error                                          = poly.Check
	_, _    overSpan                                                   = poly.Horner, poly.Powers
	_       func([]int) ([]int, error)                                 = poly.Derive
	_, _, _ overSpan                                                   = center.Range, center.Slope, center.Best
	_       func([]int, api.Span) (int, error)                         = mono.Way
	_       overSpan                                                   = mono.Range
	_       func(api.Span, int) ([]api.Span, error)                    = split.Pieces
	_       func([]int, api.Span, int) (api.Span, error)               = split.Range
	_, _    asksSpan                                                   = root.May, root.Sure
	_       func([]int, api.Span, int) ([]api.Span, error)             = root.Find
	_       overSpan                                                   = newton.Step
	_       func([]int, api.Span, int) (api.Span, error)               = newton.Run
	_       func([]api.Span) error                                     = box.Check
	_       func(a, b []api.Span) (bool, error)                        = box.Within
	_       func([]api.Span, []int) (bool, error)                      = box.Has
	_, _    twoBoxes                                                   = box.Hull, box.Meet
	_       func([]api.Span) ([]api.Span, []api.Span, error)           = box.Halve
	_       func([]api.Term, int) error                                = form.Check
	_       func([]api.Term, []api.Span) (api.Span, error)             = form.Range
	_       func([]api.Term, []int) (int, error)                       = form.At
	_       func(api.System) error                                     = step.Check
	_       func(api.System, []api.Span) ([]api.Span, error)           = step.Of
	_       func(api.System, []int, []int) ([]int, error)              = step.Point
	_       boxesOfStep                                                = flow.Run
	_       func(api.System, []int, [][]int) ([][]int, error)          = flow.Path
	_       func(api.System, []api.Span, int) ([]int, error)           = flow.Wide
	_       func([]api.Span, int) ([][]api.Span, error)                = cover.Pieces
	_       func(api.System, []api.Span, int) ([]api.Span, error)      = cover.Step
	_       asksNext                                                   = hold.Is
	_       func(api.System, []api.Span, int, int) ([]api.Span, error) = hold.Grow
	_       func(s api.System, b, bad []api.Span, n int) (bool, error) = safe.Clear
	_       func(s api.System, b, bad []api.Span, n int) (int, error)  = safe.When
	_, _    threeSpans                                                 = narrow.Sum, narrow.Times
	_       func([]api.Term, int, int) ([]api.Term, error)             = near.Steep
	_       func(api.System, []api.Span) (int, error)                  = near.Bound
	_       asksNext                                                   = near.Pull
	_       func(int) (*log.Log, error)                                = log.New
	_       logFace                                                    = (*log.Log)(nil)
	_       func(string) string                                        = run.Run
)

// logFace is what a Log can be asked.
type logFace interface {
	Put(b []api.Span) error
	Sync() error
	Crash(keep int)
	Fail(n int)
	All() [][]api.Span
	Hull() ([]api.Span, error)
	Bytes() int
	Safe() int
}

func TestErrors(t *testing.T) {
	for i, c := range []struct {
		err  api.Errno
		name string
	}{
		{api.OK, "OK"},
		{api.ErrRange, "ErrRange"},
		{api.ErrSyntax, "ErrSyntax"},
		{api.ErrShape, "ErrShape"},
		{api.ErrFull, "ErrFull"},
		{api.ErrNone, "ErrNone"},
		{api.ErrState, "ErrState"},
		{api.ErrClash, "ErrClash"},
		{api.ErrZero, "ErrZero"},
	} {
		if int(c.err) != i || c.err.Error() != c.name {
			t.Errorf("error %d is %d, %q; want %q", i, int(c.err), c.err.Error(), c.name)
		}
	}
}

func TestNumbers(t *testing.T) {
	for _, c := range []struct {
		name      string
		got, want int
	}{
		{"One", api.One, 1000},
		{"MaxNumber", api.MaxNumber, 1000000000},
		{"MaxDegree", api.MaxDegree, 4},
		{"MaxPieces", api.MaxPieces, 32},
		{"MaxSides", api.MaxSides, 3},
		{"MaxTerms", api.MaxTerms, 6},
		{"MaxSteps", api.MaxSteps, 20},
		{"MaxDone", api.MaxDone, 20},
		{"MaxRun", api.MaxRun, 3000},
	} {
		if c.got != c.want {
			t.Errorf("%s is %d, want %d", c.name, c.got, c.want)
		}
	}
}

// wrapped is an error that has another one inside.
type wrapped struct{ inner error }

func (w wrapped) Error() string { return "wrapped " + w.inner.Error() }
func (w wrapped) Unwrap() error { return w.inner }

func TestTold(t *testing.T) {
	for _, c := range []struct {
		err  error
		want api.Errno
	}{
		{nil, api.OK},
		{api.ErrZero, api.ErrZero},
		{wrapped{wrapped{api.ErrFull}}, api.ErrFull},
		{errors.New("another one"), -1},
	} {
		if got := plain.Told(c.err); got != c.want {
			t.Errorf("Told(%v) = %v, want %v", c.err, got, c.want)
		}
	}
}
