package run_test

import (
	"fmt"
	"regexp"
	"slices"
	"strconv"
	"strings"
	"sync"
	"testing"

	"spanmeadow/api"
	"spanmeadow/mono"
	"spanmeadow/newton"
	"spanmeadow/plain"
	"spanmeadow/power"
	"spanmeadow/root"
	"spanmeadow/run"
	"spanmeadow/span"
)

// row is a line, and its answer.
type row struct{ line, want string }

func checkRun(t *testing.T, text, want string) {
	t.Helper()
	if got := run.Run(text); got != want {
		t.Errorf("Run(%q) = %q, want %q", text, got, want)
	}
}

// checkLine asks a line alone, with and without a byte 10 at its end, and between others.
func checkLine(t *testing.T, line, want string) {
	t.Helper()
	checkRun(t, line+"\n", want+"\n")
	// A last piece that is empty is no line.
	if line != "" {
		checkRun(t, line, want+"\n")
	}
	checkRun(t, "add 1.000,2.000 3.000,4.000\n"+line+"\nhull 1.000,1.000 2.000,2.000", "4.000,6.000\n"+want+"\n1.000,2.000\n")
}

func checkRows(t *testing.T, rows []row) {
	t.Helper()
	for _, r := range rows {
		checkLine(t, r.line, r.want)
	}
}

func checkBad(t *testing.T, lines ...string) {
	t.Helper()
	for _, line := range lines {
		checkLine(t, line, "bad")
	}
}

func TestAdd(t *testing.T) {
	checkRows(t, []row{
		{"add 1.000,2.000 3.000,4.500", "4.000,6.500"},
		{"add -1.000,2.000 1.000,3.000", "0.000,5.000"},
		{"add -0.002,-0.001 0.001,0.001", "-0.001,0.000"},
		{"add 0.000,0.000 0.000,0.000", "0.000,0.000"},
		{"add 12.345,12.345 -0.345,-0.340", "12.000,12.005"},
		{"add 1000000.000,1000000.000 -0.001,0.000", "999999.999,1000000.000"},
		{"add -1000000.000,1000000.000 0.000,0.000", "-1000000.000,1000000.000"},
		{"add 1000000.000,1000000.000 0.000,0.001", "ErrFull"},
		{"add -1000000.000,0.000 -0.001,0.000", "ErrFull"},
		{"add 1000000.000,1000000.000 1000000.000,1000000.000", "ErrFull"},
	})
}

func TestLess(t *testing.T) {
	checkRows(t, []row{
		{"less 1.000,2.000 3.000,4.500", "-3.500,-1.000"},
		{"less 3.000,4.500 1.000,2.000", "1.000,3.500"},
		{"less 1.000,2.000 1.000,2.000", "-1.000,1.000"},
		{"less 0.000,0.000 -0.007,0.003", "-0.003,0.007"},
		{"less -1000000.000,0.000 0.000,0.000", "-1000000.000,0.000"},
		{"less -1000000.000,0.000 0.000,0.001", "ErrFull"},
		{"less 0.000,1000000.000 -0.001,0.000", "ErrFull"},
	})
}

func TestTimes(t *testing.T) {
	checkRows(t, []row{
		{"times -1.000,2.000 1.000,3.000", "-3.000,6.000"},
		{"times -2.000,-1.000 -4.000,-3.000", "3.000,8.000"},
		{"times 0.001,0.001 0.001,0.001", "0.000,0.001"},
		{"times -0.001,-0.001 0.001,0.001", "-0.001,0.000"},
		{"times 0.333,0.334 3.000,3.000", "0.999,1.002"},
		{"times 1000.000,1000.000 -1000.000,1000.000", "-1000000.000,1000000.000"},
		{"times 1000.000,1000.000 1000.000,1000.001", "ErrFull"},
		{"times -1000.000,0.000 1000.000,1000.001", "ErrFull"},
	})
}

func TestBy(t *testing.T) {
	checkRows(t, []row{
		{"by 1.000,1.000 3.000,3.000", "0.333,0.334"},
		{"by 3.000,3.000 1.000,1.000", "3.000,3.000"},
		{"by 1.000,2.000 -3.000,-1.000", "-2.000,-0.333"},
		{"by -1.000,2.000 0.500,4.000", "-2.000,4.000"},
		{"by 0.000,0.000 0.001,0.001", "0.000,0.000"},
		{"by 1000000.000,1000000.000 1.000,1.000", "1000000.000,1000000.000"},
		{"by 1000000.000,1000000.000 0.999,1.000", "ErrFull"},
		{"by 1.000,1.000 0.000,0.000", "ErrZero"},
		{"by 1.000,1.000 0.000,1.000", "ErrZero"},
		{"by 1.000,1.000 -1.000,0.000", "ErrZero"},
		{"by 0.000,0.000 -0.001,0.001", "ErrZero"},
		// Beyond what may be at its ends as well.
		{"by 1000000.000,1000000.000 -0.001,0.001", "ErrZero"},
	})
}

func TestMeet(t *testing.T) {
	checkRows(t, []row{
		{"meet -1.000,2.000 1.000,3.000", "1.000,2.000"},
		{"meet 1.000,3.000 -1.000,2.000", "1.000,2.000"},
		{"meet 0.000,9.000 2.000,3.000", "2.000,3.000"},
		{"meet 0.000,1.000 1.000,2.000", "1.000,1.000"},
		{"meet 0.000,1.000 1.001,2.000", "ErrNone"},
		{"meet 1.001,2.000 0.000,1.000", "ErrNone"},
		{"meet -1000000.000,1000000.000 0.000,0.000", "0.000,0.000"},
	})
}

func TestHull(t *testing.T) {
	checkRows(t, []row{
		{"hull -1.000,2.000 1.000,3.000", "-1.000,3.000"},
		{"hull 5.000,5.000 0.000,0.000", "0.000,5.000"},
		{"hull 0.000,9.000 2.000,3.000", "0.000,9.000"},
		{"hull -1000000.000,-1000000.000 1000000.000,1000000.000", "-1000000.000,1000000.000"},
	})
}

func TestPower(t *testing.T) {
	checkRows(t, []row{
		{"power -1.000,2.000 0", "1.000,1.000"},
		{"power -1.000,2.000 1", "-1.000,2.000"},
		{"power -1.000,2.000 2", "0.000,4.000"},
		{"power -1.000,2.000 3", "-1.000,8.000"},
		{"power -1.000,2.000 4", "0.000,16.000"},
		{"power -1.000,2.000 5", "ErrRange"},
		{"power -1.000,2.000 6", "ErrRange"},
		{"power -1.000,2.000 7", "ErrRange"},
		{"power -1.000,2.000 8", "ErrRange"},
		{"power -1.000,2.000 9", "ErrRange"},
		{"power 0.001,0.001 2", "0.000,0.001"},
		{"power -1000000.000,1000000.000 0", "1.000,1.000"},
		{"power -1000000.000,1000000.000 1", "-1000000.000,1000000.000"},
		{"power 1000.000,1000.000 2", "1000000.000,1000000.000"},
		{"power 1000.001,1000.001 2", "ErrFull"},
		{"power -100.001,0.000 3", "ErrFull"},
		{"power 1000000.000,1000000.000 9", "ErrRange"},
	})
}

func TestPowerNotOneDigit(t *testing.T) {
	for _, n := range []string{"", "00", "01", "02", "10", "11", "22", "99", "123", "2.000", "2.", ".2", "+2", "-2", "-0", "+0", "2 ", " 2", "2,", ",2", "2,3", "x", "/", ":", "\x00", "\x02", "2\r", "2\t", "2\x00", "2x", "²", "２", "٢", "0x2", "1e0"} {
		checkBad(t, "power -1.000,2.000 "+n)
	}
	checkBad(t, "power -1.000,2.000", "power 2 -1.000,2.000", "power 2", "power 2.000 2")
	// Also where a digit in its place would be answered with an error.
	checkBad(t, "power 1000.001,1000.001 02", "power 1000.001,1000.001 -2")
}

func TestRange(t *testing.T) {
	checkRows(t, []row{
		{"range 2.325 -0.004,0.002", "2.325,2.325"},
		{"range 0.000 -1000000.000,1000000.000", "0.000,0.000"},
		{"range -1.000,1.000 0.000,2.000", "-1.000,1.000"},
		{"range 1.000,-1.000 0.000,2.000", "-1.000,1.000"},
		{"range 2.000,-3.000,1.000 2.000,3.000", "0.000,2.000"},
		{"range 2.000,-3.000,1.000 1.000,2.000", "-0.750,0.250"},
		{"range 0.000,0.000,0.000,1.000 -1.000,2.000", "-1.000,8.000"},
		{"range 0.000,0.000,0.000,0.000,1.000 1.000,2.000", "1.000,16.000"},
		{"range 0.000,0.000,1.000 0.000,1000.000", "ErrFull"},
		{"range 0.000,0.000,1.000 1.000,400.000", "1.000,160000.000"},
		{"range 1000000.000,1.000 0.000,0.001", "ErrFull"},
	})
}

// many factors of a polynomial.
func many(factor string, count int) string {
	return strings.Join(slices.Repeat([]string{factor}, count), ",")
}

// TestManyFactors: as many as one likes can be read, but only MaxDegree and one of them may be.
func TestManyFactors(t *testing.T) {
	checkRows(t, []row{
		{"range " + many("0.000", 5) + " 0.000,1.000", "0.000,0.000"},
		{"roots " + many("0.000", 5) + " 0.000,1.000 1.000", "0.000,1.000"},
		{"newton " + many("0.000", 5) + " 0.000,1.000", "ErrZero"},
	})
	for _, count := range []int{6, 7, 8, 100, 256, 400} {
		for _, factor := range []string{"0.000", "1.000", "-0.001"} {
			p := many(factor, count)
			checkRows(t, []row{
				{"range " + p + " 0.000,1.000", "ErrFull"},
				{"roots " + p + " 0.000,1.000 1.000", "ErrFull"},
				// What is wrong with the polynomial is told first.
				{"roots " + p + " 0.000,1.000 0.000", "ErrFull"},
				{"newton " + p + " 0.000,1.000", "ErrFull"},
			})
			// All are read, also those that are too many.
			for _, wrong := range []string{p + ",", p + ",x", p + ",1000000.001", "," + p} {
				checkBad(t, "range "+wrong+" 0.000,1.000", "roots "+wrong+" 0.000,1.000 1.000", "newton "+wrong+" 0.000,1.000")
			}
		}
	}
}

func TestNoFactors(t *testing.T) {
	checkBad(t,
		"range  0.000,1.000", "range 0.000,1.000", "range , 0.000,1.000",
		"roots  0.000,1.000 1.000", "roots 0.000,1.000 1.000", "roots , 0.000,1.000 1.000",
		"newton  0.000,1.000", "newton 0.000,1.000", "newton , 0.000,1.000")
}

// oneBehindAnother are so many spans from 0 on, each so many thousandths wide (below 1000 in all).
func oneBehindAnother(count, wide int) string {
	var spans []string
	for i := range count {
		spans = append(spans, fmt.Sprintf("0.%03d,0.%03d", i*wide, (i+1)*wide))
	}
	return strings.Join(spans, " ")
}

func TestRoots(t *testing.T) {
	checkRows(t, []row{
		{"roots 1.000 0.000,1.000 1.000", "-"},
		{"roots 2.000,-3.000,1.000 3.000,9.000 0.001", "-"},
		{"roots 0.000 0.000,1.000 1.000", "0.000,1.000"},
		{"roots 0.000 5.000,5.000 0.001", "5.000,5.000"},
		{"roots 0.000,1.000 -1.000,1.000 2.000", "-1.000,1.000"},
		{"roots 0.000,1.000 -1.000,1.000 1.999", "-1.000,0.000 0.000,1.000"},
		{"roots 2.000,-3.000,1.000 -2.500,2.500 0.010", "0.995,1.005 1.992,2.001"},
		{"roots 0.000,-2.000,1.000,1.000 -0.004,2.996 1.000", "-0.004,0.746 0.746,1.496"},
		{"roots 0.000 0.000,0.004 0.001", "0.000,0.001 0.001,0.002 0.002,0.003 0.003,0.004"},
		{"roots 0.000 0.000,0.032 0.001", oneBehindAnother(32, 1)},
		{"roots 0.000 0.000,0.064 0.002", oneBehindAnother(32, 2)},
		{"roots 0.000 0.000,0.033 0.001", "ErrFull"},
		{"roots 0.000 -1000000.000,1000000.000 0.001", "ErrFull"},
		{"roots 0.000,0.000,1.000 0.000,1000.001 1.000", "ErrFull"},
		{"roots 0.000 -1000000.000,1000000.000 1000000.000", "-1000000.000,0.000 0.000,1000000.000"},
		{"roots 0.000 0.000,1.000 0.000", "ErrRange"},
		{"roots 0.000 0.000,1.000 -0.001", "ErrRange"},
		{"roots 0.000 0.000,1.000 -1000000.000", "ErrRange"},
		// The range would be beyond what may be as well.
		{"roots 0.000,0.000,1.000 0.000,1000.001 0.000", "ErrRange"},
	})
	// A number that may not be is none that can be read.
	checkBad(t, "roots 0.000 0.000,1.000 1000000.001", "roots 0.000 0.000,1.000 -1000000.001", "roots 0.000 0.000,1.000 1", "roots 0.000 0.000,1.000 1.000,1.000", "roots 0.000 0.000,1.000", "roots 0.000 0.000,1.000 ")
}

func TestNewton(t *testing.T) {
	checkRows(t, []row{
		{"newton -1.000,1.000 0.000,5.000", "1.000,1.000"},
		{"newton 2.000,-3.000,1.000 1.600,2.200", "2.000,2.000"},
		{"newton 2.000,-3.000,1.000 -1.000,0.000", "ErrNone"},
		{"newton 2.000,-3.000,1.000 1.000,2.000", "ErrZero"},
		{"newton 1.000 0.000,1.000", "ErrZero"},
		{"newton 0.000 0.000,0.000", "ErrZero"},
		{"newton 0.000,0.000,1.000 1.000,1000000.000", "ErrFull"},
		{"newton 0.000,2.000,1.000 -0.004,0.000", "-0.001,0.000"},
		{"newton 0.000,353064.102 -0.003,0.351", "0.000,0.000"},
		// Each of more than MaxSteps steps would change something: 19 of them, or 21, tell another span.
		{"newton -0.008,0.008,0.009,0.010,-0.008 1.742,2.366", "1.863,2.040"},
		{"newton -0.006,-0.003,-0.002,-0.007,0.008 1.245,31.719", "1.392,1.575"},
	})
}

// noNumbers are none as chapter 1's Print writes them, or beyond what may be; none has a comma.
var noNumbers = []string{
	"", "-", "+", ".", "-.", "x", "0", "1", "-1", "10", "1000",
	// No digit ahead of the point, or a needless one.
	".000", ".500", "-.500", "00.000", "01.000", "-01.000", "000.500", "0001000000.000",
	// Too few digits behind it, or too many.
	"1.", "1.0", "1.00", "-1.50", "1.0000", "1.00000", "0.0001", "1.500000000",
	// A sign too many, or in the wrong place.
	"+1.000", "--1.000", "-+1.000", "+-1.000", "1.000-", "1-.000", "1.-00", "-0.000", "+0.000", "−1.000",
	// A point too many, or another one.
	"1.000.000", "1..000", ".1.000", "1.000.", "1:000", "1·000", "1;000",
	// A blank, or what looks like one.
	" 1.000", "1.000 ", "1 .000", "1. 000", "- 1.000", "1 000.000", "\t1.000", "1.000\t", "1.000\r", "1.000\v", "\u00a01.000", "1.000\u00a0", "\ufeff1.000",
	// A byte beyond what is written.
	"1.000x", "x1.000", "1.000\x00", "\x001.000", "1.00x", "1.x00", "x.000", "1.000\xff", "\xff", "1e3", "1.0e3", "0x1.000", "1_000.000", "１.000", "1.00٠", "NaN", "Inf", "\"1.000\"", "(1.000)",
	// Beyond what may be.
	"1000000.001", "-1000000.001", "1000001.000", "9999999.999", "-9999999.999", "10000000.000", "1000000000.000", "-99999999999.999", "9223372036854775.807", "9223372036854775.808", "18446744073709551.616", "18446744073709552.616", "-18446744073709551.616",
}

// placed are lines that are good but for one place, where a word is to be put.
var placed = []string{
	"add @,1.000 0.000,1.000", "add 0.000,@ 0.000,1.000", "add 0.000,1.000 @,1.000", "add 0.000,1.000 0.000,@",
	"less @,1.000 0.000,1.000", "less 0.000,@ 0.000,1.000", "less 0.000,1.000 @,1.000", "less 0.000,1.000 0.000,@",
	"times @,1.000 0.000,1.000", "times 0.000,@ 0.000,1.000", "times 0.000,1.000 @,1.000", "times 0.000,1.000 0.000,@",
	"by @,1.000 0.500,1.000", "by 0.000,@ 0.500,1.000", "by 0.000,1.000 @,1.000", "by 0.000,1.000 0.500,@",
	"meet @,1.000 0.000,1.000", "meet 0.000,@ 0.000,1.000", "meet 0.000,1.000 @,1.000", "meet 0.000,1.000 0.000,@",
	"hull @,1.000 0.000,1.000", "hull 0.000,@ 0.000,1.000", "hull 0.000,1.000 @,1.000", "hull 0.000,1.000 0.000,@",
	"power @,1.000 2", "power 0.000,@ 2", "power @,1.000 9", "power 0.000,@ 9",
	"range @ 0.000,1.000", "range @,1.000 0.000,1.000", "range 1.000,@ 0.000,1.000", "range 1.000,@,1.000 0.000,1.000", "range 1.000,2.000 @,1.000", "range 1.000,2.000 0.000,@",
	"roots @ 0.000,1.000 0.500", "roots @,1.000 0.000,1.000 0.500", "roots 1.000,@ 0.000,1.000 0.500", "roots 1.000,2.000 @,1.000 0.500", "roots 1.000,2.000 0.000,@ 0.500", "roots 1.000,2.000 0.000,1.000 @", "roots @ 0.000,1.000 0.000",
	"newton @ 0.000,1.000", "newton @,1.000 0.000,1.000", "newton 1.000,@ 0.000,1.000", "newton 1.000,@,1.000 0.000,1.000", "newton 1.000,2.000 @,1.000", "newton 1.000,2.000 0.000,@",
}

// TestNoNumber: a number that cannot be read makes a line bad, wherever it stands.
func TestNoNumber(t *testing.T) {
	for _, line := range placed {
		// The place is one where a number can be read.
		if got := run.Run(strings.Replace(line, "@", "0.750", 1)); got == "bad\n" {
			t.Errorf("%q with a number is %q", line, got)
		}
		for _, word := range noNumbers {
			checkBad(t, strings.Replace(line, "@", word, 1))
		}
	}
}

// noSpans are words that are no SPAN; those with no fault but their order, or their commas, can be read as numbers.
var noSpans = []string{
	"0.000", "1.000", "-1.000", "", ",", ",,", "0.000,", ",0.000", "0.000,,1.000", ",0.000,1.000", "0.000,1.000,", "0.000,1.000,2.000", "0.000,0.000,0.000", "0.000,1.000,2.000,3.000",
	"0.000;1.000", "0.000.1.000", "0.000-1.000", "0.000, 1.000", "0.000 ,1.000", "0.000 1.000", "0.000，1.000", "[0.000,1.000]", "{0 1000}", "0,1",
	// The wrong way round.
	"1.000,0.000", "0.001,0.000", "0.000,-0.001", "-0.001,-0.002", "2.000,-2.000", "1000000.000,999999.999", "-999999.999,-1000000.000", "1000000.000,-1000000.000",
}

// placedSpans are lines that are good but for one place, where a SPAN is to be put; some would be answered with an error.
var placedSpans = []string{
	"add @ 0.000,1.000", "add 0.000,1.000 @", "less @ 0.000,1.000", "less 0.000,1.000 @", "times @ 0.000,1.000", "times 0.000,1.000 @",
	"by @ 0.500,1.000", "by 0.500,1.000 @", "by @ 0.000,0.000", "meet @ 0.000,1.000", "meet 0.000,1.000 @", "hull @ 0.000,1.000", "hull 0.000,1.000 @",
	"power @ 0", "power @ 2", "power @ 9", "range 1.000 @", "range 1.000,2.000 @", "range 0.000,0.000,0.000,0.000,0.000,0.000 @",
	"roots 1.000,2.000 @ 0.500", "roots 1.000,2.000 @ 0.000", "roots 0.000,0.000,0.000,0.000,0.000,0.000 @ 0.500",
	"newton 1.000,2.000 @", "newton 0.000,0.000,0.000,0.000,0.000,0.000 @", "newton 1.000 @",
}

// TestNoSpan: a SPAN that cannot be read makes a line bad, also one that an error would be the answer to.
func TestNoSpan(t *testing.T) {
	for _, line := range placedSpans {
		if got := run.Run(strings.Replace(line, "@", "0.250,0.750", 1)); got == "bad\n" {
			t.Errorf("%q with a SPAN is %q", line, got)
		}
		for _, word := range noSpans {
			checkBad(t, strings.Replace(line, "@", word, 1))
		}
	}
}

// TestNoPoly: factors that are not parted by just one comma.
func TestNoPoly(t *testing.T) {
	for _, word := range []string{"", ",", ",,", "1.000,", ",1.000", "1.000,,2.000", ",1.000,2.000", "1.000,2.000,", "1.000;2.000", "1.000 2.000", "1.000, 2.000", "1.000 ,2.000", "1.000+2.000", "x", "1,2"} {
		checkBad(t, "range "+word+" 0.000,1.000", "roots "+word+" 0.000,1.000 0.500", "newton "+word+" 0.000,1.000")
	}
}

// good lines, one of each kind.
var good = []row{
	{"add 1.000,2.000 3.000,4.000", "4.000,6.000"},
	{"less 1.000,2.000 3.000,4.000", "-3.000,-1.000"},
	{"times 1.000,2.000 3.000,4.000", "3.000,8.000"},
	{"by 1.000,2.000 4.000,8.000", "0.125,0.500"},
	{"meet 1.000,3.000 2.000,4.000", "2.000,3.000"},
	{"hull 1.000,2.000 3.000,4.000", "1.000,4.000"},
	{"power 1.000,2.000 2", "1.000,4.000"},
	{"range -1.000,1.000 0.000,2.000", "-1.000,1.000"},
	{"roots 0.000,1.000 -1.000,1.000 1.000", "-1.000,0.000 0.000,1.000"},
	{"newton -1.000,1.000 0.000,5.000", "1.000,1.000"},
}

// TestWords: a word too few or too many, and what stands between them.
func TestWords(t *testing.T) {
	checkRows(t, good)
	for _, g := range good {
		words := strings.Split(g.line, " ")
		for i := range words {
			checkBad(t, strings.Join(slices.Delete(slices.Clone(words), i, i+1), " "))
			checkBad(t, strings.Join(words[:i], " "))
			for _, more := range []string{words[i], "", "x", "0.000", "1.000,2.000", "2", "add", "-"} {
				checkBad(t, strings.Join(slices.Insert(slices.Clone(words), i, more), " "))
			}
		}
		for i := 1; i < len(words); i++ {
			for _, between := range []string{"", "  ", "   ", "\t", " \t", "\r", ",", "_", "\u00a0", "\x00", "\v", "\f"} {
				checkBad(t, strings.Join(words[:i], " ")+between+strings.Join(words[i:], " "))
			}
		}
		for _, edge := range []string{" ", "  ", "\t", "\r", "\x00", "\v", "\f", ".", ",", "#", "\ufeff", "\u00a0", " x", " 0.000", " 1.000,2.000", " 2"} {
			checkBad(t, g.line+edge, edge+g.line)
		}
	}
}

// TestOtherWords: lines that begin with no word of the table.
func TestOtherWords(t *testing.T) {
	checkBad(t, "", " ", "  ", "\t", "\r", "\x00", "fly", "bad", "-", "OK", "ErrRange", "too long", "too long ", ",", ".", "0.000", "1.000,2.000", "1.000,2.000 1.000,2.000", "?", "#", "help", "quit")
	others := []string{"", "plus", "sub", "mul", "div", "union", "check", "of", "far", "middle", "horner", "powers", "derive", "slope", "best", "way", "pieces", "split", "may", "find", "sure", "root", "step", "run", "halve", "within", "has", "at", "point", "path", "sum", "steep", "put", "sync", "crash", "print", "parse", "bad", "fly"}
	for _, g := range good {
		name, rest, _ := strings.Cut(g.line, " ")
		for _, other := range others {
			checkBad(t, other+" "+rest)
		}
		// In other letters, cut off, or with more behind or ahead.
		for _, other := range []string{strings.ToUpper(name), strings.ToUpper(name[:1]) + name[1:], name[:len(name)-1] + strings.ToUpper(name[len(name)-1:]), name[:len(name)-1], name[1:], name + "s", name + ":", name + "\x00", "x" + name, name + name} {
			checkBad(t, other+" "+rest, other)
		}
		checkBad(t, name, name+" ", " "+name)
	}
}

// TestErrorNames: each name that can come up does, and no other: what would be told by another one cannot be read.
func TestErrorNames(t *testing.T) {
	seen := map[string]int{}
	for _, r := range []row{
		{"add 1000000.000,1000000.000 1.000,1.000", "ErrFull"},
		{"less -1000000.000,0.000 1.000,1.000", "ErrFull"},
		{"times 1000000.000,1000000.000 2.000,2.000", "ErrFull"},
		{"by 1000000.000,1000000.000 0.500,0.500", "ErrFull"},
		{"by 1.000,2.000 -1.000,1.000", "ErrZero"},
		{"meet 1.000,2.000 3.000,4.000", "ErrNone"},
		{"power 1.000,2.000 5", "ErrRange"},
		{"power 1.000,1001.000 2", "ErrFull"},
		{"range 1.000,1.000,1.000,1.000,1.000,1.000 1.000,2.000", "ErrFull"},
		{"range 1.000,1000000.000 1.000,2.000", "ErrFull"},
		{"roots 1.000,1.000,1.000,1.000,1.000,1.000 1.000,2.000 1.000", "ErrFull"},
		{"roots 0.000 1.000,2.000 0.001", "ErrFull"},
		{"roots 1.000 1.000,2.000 0.000", "ErrRange"},
		{"newton 1.000,1.000,1.000,1.000,1.000,1.000 1.000,2.000", "ErrFull"},
		{"newton 1.000,1.000 1.000,2.000", "ErrNone"},
		{"newton 1.000 1.000,2.000", "ErrZero"},
	} {
		checkLine(t, r.line, r.want)
		seen[r.want]++
	}
	for _, e := range []api.Errno{api.ErrRange, api.ErrFull, api.ErrNone, api.ErrZero} {
		if seen[e.Error()] == 0 {
			t.Errorf("no line is answered %v", e)
		}
	}
}

func TestTexts(t *testing.T) {
	line, answer := good[0].line, good[0].want
	for _, c := range []struct{ text, want string }{
		{"", ""},
		{"\n", "bad\n"},
		{"\n\n", "bad\nbad\n"},
		{"\n\n\n\n\n", "bad\nbad\nbad\nbad\nbad\n"},
		{" ", "bad\n"},
		{" \n", "bad\n"},
		{"x", "bad\n"},
		{line, answer + "\n"},
		{line + "\n", answer + "\n"},
		{line + "\n\n", answer + "\nbad\n"},
		{"\n" + line, "bad\n" + answer + "\n"},
		{"\n" + line + "\n", "bad\n" + answer + "\n"},
		{line + "\n\n" + line, answer + "\nbad\n" + answer + "\n"},
		{line + "\n" + line, answer + "\n" + answer + "\n"},
		{line + "\nx\n" + line + "\n", answer + "\nbad\n" + answer + "\n"},
		// Other bytes end no line.
		{line + "\r\n" + line, "bad\n" + answer + "\n"},
		{line + "\r" + line, "bad\n"},
		{line + "\v" + line + "\f", "bad\n"},
		{line + "\x00", "bad\n"},
		{line + "\u2028" + line, "bad\n"},
		{line + "\u0085" + line, "bad\n"},
		{line + ";" + line, "bad\n"},
		{line + "\\n" + line, "bad\n"},
		// A line goes on no further than to its end.
		{"add 1.000,2.000\n3.000,4.000", "bad\nbad\n"},
		{"add 1.000,\n2.000 3.000,4.000", "bad\nbad\n"},
		// Bytes that are no letters.
		{"\x00", "bad\n"},
		{"\xff\xfe\n\x80", "bad\nbad\n"},
		{"\xf0\x9f\n\x98\x80", "bad\nbad\n"},
		{"ä\nadd ü ö", "bad\nbad\n"},
	} {
		checkRun(t, c.text, c.want)
	}
}

// filled is a text of so many bytes: good lines, then one of other bytes; and the answer to it.
func filled(bytes int) (text, want string) {
	line, answer := good[0].line+"\n", good[0].want+"\n"
	count := bytes / len(line)
	text, want = strings.Repeat(line, count), strings.Repeat(answer, count)
	if left := bytes - len(text); left > 0 {
		text, want = text+strings.Repeat("x", left), want+"bad\n"
	}
	return text, want
}

func TestTooLong(t *testing.T) {
	if api.MaxRun != 3000 {
		t.Fatalf("MaxRun is %d", api.MaxRun)
	}
	for _, bytes := range []int{2998, 2999, 3000} {
		text, want := filled(bytes)
		checkRun(t, text, want)
		checkRun(t, strings.Repeat("x", bytes), "bad\n")
		checkRun(t, strings.Repeat("x", bytes-1)+"\n", "bad\n")
		checkRun(t, strings.Repeat(" ", bytes), "bad\n")
		checkRun(t, strings.Repeat("\n", bytes), strings.Repeat("bad\n", bytes))
		checkRun(t, strings.Repeat("\x00", bytes), "bad\n")
		checkRun(t, strings.Repeat("\xff", bytes), "bad\n")
	}
	for _, bytes := range []int{3001, 3002, 3003, 4096, 6000, 1 << 16, 1 << 20} {
		text, _ := filled(bytes)
		checkRun(t, text, "too long\n")
		for _, b := range []string{"x", " ", "\n", "\x00", "\xff"} {
			checkRun(t, strings.Repeat(b, bytes), "too long\n")
		}
	}
	// The byte 10 at the end counts as well, and bytes count, not letters.
	text, want := filled(3000)
	checkRun(t, text, want)
	checkRun(t, text+"\n", "too long\n")
	checkRun(t, strings.Repeat("ä", 1500), "bad\n")
	checkRun(t, strings.Repeat("ä", 1500)+"x", "too long\n")
	checkRun(t, strings.Repeat("ä", 1501), "too long\n")
	checkRun(t, strings.Repeat("ä", 3000), "too long\n")
}

// TestLongLine: one line as long as a text may be is answered like any other.
func TestLongLine(t *testing.T) {
	text := "range 10.000," + many("0.000", 496) + " 0.000,1.000"
	if len(text) != api.MaxRun {
		t.Fatalf("the text has %d bytes", len(text))
	}
	checkRun(t, text, "ErrFull\n")
	checkRun(t, text[:len(text)-1], "bad\n")
	checkRun(t, text+"\n", "too long\n")
}

// session is a text with lines of all kinds, good and bad, and with errors.
func session() string {
	var lines []string
	for _, g := range good {
		lines = append(lines, g.line)
	}
	lines = append(lines, "", "fly", "meet 0.000,1.000 2.000,3.000", "by 1.000,1.000 0.000,0.000", "power 1.000,1.000 7", "roots 1.000 0.000,1.000 1.000", "add 2.000,1.000 0.000,1.000", " ", "", "", "roots 0.000 0.000,0.032 0.001", "range  1.000,2.000", "hull 1.000,1.000 2.000,2.000")
	return strings.Join(lines, "\n") + "\n"
}

// cuts are the places behind each byte 10 of a text, and its beginning.
func cuts(text string) []int {
	at := []int{0}
	for i := range len(text) {
		if text[i] == '\n' {
			at = append(at, i+1)
		}
	}
	return at
}

// checkBeginnings asks a text that is not too long as a whole, and cut behind each line: the answers to the first lines are the beginning of all answers.
func checkBeginnings(t *testing.T, text string) {
	t.Helper()
	all := run.Run(text)
	ends := cuts(all)
	for lines, at := range cuts(text) {
		if first := run.Run(text[:at]); first != all[:ends[lines]] {
			t.Errorf("Run(%q) = %q, and of its first %d lines %q", text, all, lines, first)
		}
		// A byte 10 behind the last line makes no difference, unless that line is empty.
		if at > 1 && text[at-2] != '\n' {
			if first := run.Run(text[:at-1]); first != all[:ends[lines]] {
				t.Errorf("Run(%q) = %q, and of its first %d lines without the byte 10 %q", text, all, lines, first)
			}
		}
		// What is left is answered as if nothing were ahead of it.
		if rest := run.Run(text[at:]); rest != all[ends[lines]:] {
			t.Errorf("Run(%q) = %q, and behind its first %d lines %q", text, all, lines, rest)
		}
	}
}

func TestBeginnings(t *testing.T) {
	checkBeginnings(t, "")
	checkBeginnings(t, session())
	checkBeginnings(t, strings.TrimSuffix(session(), "\n"))
	checkBeginnings(t, session()+"\n\n\n"+session())
	checkBeginnings(t, strings.Repeat("\n", 200))
	for _, bytes := range []int{1, 27, 28, 29, 2999, 3000} {
		text, _ := filled(bytes)
		checkBeginnings(t, text)
	}
	for _, line := range placed {
		for _, word := range []string{"0.750", "x", "-0.500", "1000000.000"} {
			checkBeginnings(t, strings.Replace(line, "@", word, 1)+"\n"+session())
		}
	}
}

// TestBeginningsOfTooLong: also of a text that is too long the first lines are answered, as far as they are not.
func TestBeginningsOfTooLong(t *testing.T) {
	text, want := filled(4000)
	checkRun(t, text, "too long\n")
	ends := cuts(want)
	for lines, at := range cuts(text) {
		if at <= api.MaxRun {
			checkRun(t, text[:at], want[:ends[lines]])
		} else {
			checkRun(t, text[:at], "too long\n")
		}
	}
}

// The forms of lines, as the chapter says them.
const (
	numberForm = `-?(?:0|[1-9][0-9]*)\.[0-9]{3}`
	spanForm   = `(` + numberForm + `),(` + numberForm + `)`
	polyForm   = `(` + numberForm + `(?:,` + numberForm + `)*)`
)

var (
	twoLine    = regexp.MustCompile(`\A(add|less|times|by|meet|hull) ` + spanForm + ` ` + spanForm + `\z`)
	powerLine  = regexp.MustCompile(`\Apower ` + spanForm + ` ([0-9])\z`)
	polyLine   = regexp.MustCompile(`\A(range|newton) ` + polyForm + ` ` + spanForm + `\z`)
	rootsLine  = regexp.MustCompile(`\Aroots ` + polyForm + ` ` + spanForm + ` (` + numberForm + `)\z`)
	numberWord = regexp.MustCompile(numberForm)
)

// numbers of words that have the form of them, and whether each is one that may be, and written as Print does.
func numbers(words ...string) ([]int, bool) {
	var all []int
	for _, word := range words {
		for _, one := range numberWord.FindAllString(word, -1) {
			n, err := strconv.Atoi(strings.Replace(one, ".", "", 1))
			if err != nil || n > api.MaxNumber || n < -api.MaxNumber || one == "-0.000" {
				return nil, false
			}
			all = append(all, n)
		}
	}
	return all, true
}

// meantLine is a second reckoning of the answer to a line: by forms, not word by word.
func meantLine(line string) string {
	if m := twoLine.FindStringSubmatch(line); m != nil {
		calls := map[string]func(a, b api.Span) (api.Span, error){"add": span.Add, "less": span.Less, "times": span.Times, "by": span.By, "meet": span.Meet, "hull": span.Hull}
		n, ok := numbers(m[2:]...)
		if !ok || n[0] > n[1] || n[2] > n[3] {
			return "bad"
		}
		return meantOne(calls[m[1]](api.Span{Lo: n[0], Hi: n[1]}, api.Span{Lo: n[2], Hi: n[3]}))
	}
	if m := powerLine.FindStringSubmatch(line); m != nil {
		n, ok := numbers(m[1:3]...)
		if !ok || n[0] > n[1] {
			return "bad"
		}
		return meantOne(power.Of(api.Span{Lo: n[0], Hi: n[1]}, strings.Index("0123456789", m[3])))
	}
	if m := polyLine.FindStringSubmatch(line); m != nil {
		n, ok := numbers(m[2:]...)
		if !ok || n[len(n)-2] > n[len(n)-1] {
			return "bad"
		}
		p, x := n[:len(n)-2], api.Span{Lo: n[len(n)-2], Hi: n[len(n)-1]}
		if m[1] == "newton" {
			return meantOne(newton.Run(p, x, api.MaxSteps))
		}
		return meantOne(mono.Range(p, x))
	}
	if m := rootsLine.FindStringSubmatch(line); m != nil {
		n, ok := numbers(m[1:]...)
		if !ok || n[len(n)-3] > n[len(n)-2] {
			return "bad"
		}
		return meantSpans(root.Find(n[:len(n)-3], api.Span{Lo: n[len(n)-3], Hi: n[len(n)-2]}, n[len(n)-1]))
	}
	return "bad"
}

func meantOne(a api.Span, err error) string { return meantSpans([]api.Span{a}, err) }

func meantSpans(spans []api.Span, err error) string {
	if err != nil {
		return plain.Told(err).Error()
	}
	if len(spans) == 0 {
		return "-"
	}
	var words []string
	for _, a := range spans {
		words = append(words, meantNumber(a.Lo)+","+meantNumber(a.Hi))
	}
	return strings.Join(words, " ")
}

func meantNumber(n int) string {
	sign := ""
	if n < 0 {
		sign, n = "-", -n
	}
	return fmt.Sprintf("%s%d.%03d", sign, n/1000, n%1000)
}

// meant is a second reckoning of the answer to a text.
func meant(text string) string {
	if len(text) > 3000 {
		return "too long\n"
	}
	lines := strings.Split(text, "\n")
	if lines[len(lines)-1] == "" {
		lines = lines[:len(lines)-1]
	}
	answers := ""
	for _, line := range lines {
		answers += meantLine(line) + "\n"
	}
	return answers
}

func checkMeant(t *testing.T, text string) {
	t.Helper()
	checkRun(t, text, meant(text))
}

// TestAllOfWords: lines of up to three words behind their first, each one of some that are good and some that are not.
func TestAllOfWords(t *testing.T) {
	names := []string{"add", "less", "times", "by", "meet", "hull", "power", "range", "roots", "newton", "fly", ""}
	words := []string{"", "x", "0", "2", "3", "9", "10", "-1", "0.000", "0.001", "1.000", "-1.000", "1000000.000", "1000000.001", "0.000,0.000", "-1.000,2.000", "1.000,3.000", "0.001,0.002", "2.000,1.000", "-1000000.000,1000000.000", "999.000,1001.000", "-3.000,-2.000", "0.000,1.000,", "-2.000,1.000,1.000", "0.000,0.000,0.000,0.000,0.001", "1.000,1.000,1.000,1.000,1.000,1.000"}
	for _, name := range names {
		checkMeant(t, name)
		for _, first := range words {
			checkMeant(t, name+" "+first)
			for _, second := range words {
				line := name + " " + first + " " + second
				checkMeant(t, line)
				for _, third := range words {
					checkMeant(t, line+" "+third)
				}
			}
		}
	}
}

// TestOneByteOther: good lines with each byte put as each other one, left out, and with each other one put ahead of it.
func TestOneByteOther(t *testing.T) {
	for _, g := range good {
		for i := range len(g.line) {
			checkMeant(t, g.line[:i]+g.line[i+1:])
			for b := range 256 {
				checkMeant(t, g.line[:i]+string([]byte{byte(b)})+g.line[i+1:])
				checkMeant(t, g.line[:i]+string([]byte{byte(b)})+g.line[i:])
			}
		}
	}
}

// TestCutAnywhere: a text cut behind each byte of it, and ahead of each.
func TestCutAnywhere(t *testing.T) {
	text := session()
	for i := range len(text) + 1 {
		checkMeant(t, text[:i])
		checkMeant(t, text[i:])
	}
}

// rule makes up numbers, the same ones each time.
type rule uint32

func (r *rule) below(n int) int {
	*r = *r*1664525 + 1013904223
	return int(*r>>8) % n
}

// number that may be: some small, some great.
func (r *rule) number() string {
	wide := []int{3, 10, 1000, 5000, 100000, 10000000, 1000000001}[r.below(7)]
	n := r.below(1<<24) * 97 % wide
	if r.below(2) == 0 {
		n = -n
	}
	return meantNumber(n)
}

// numbers with commas between.
func (r *rule) numbers(count int) string {
	var words []string
	for range count {
		words = append(words, r.number())
	}
	return strings.Join(words, ",")
}

// span most often has its ends the right way round.
func (r *rule) span() string {
	a, b := r.number(), r.number()
	n, _ := numbers(a, b)
	if n[0] > n[1] && r.below(20) > 0 {
		a, b = b, a
	}
	return a + "," + b
}

func (r *rule) line() string {
	names := []string{"add", "less", "times", "by", "meet", "hull"}
	switch kind := r.below(12); kind {
	case 6:
		return "power " + r.span() + " " + strconv.Itoa(r.below(6))
	case 7, 8:
		return "range " + r.numbers(1+r.below(6)) + " " + r.span()
	case 9:
		return "roots " + r.numbers(1+r.below(6)) + " " + r.span() + " " + r.number()
	case 10:
		return "newton " + r.numbers(1+r.below(6)) + " " + r.span()
	case 11:
		return ""
	default:
		return names[kind] + " " + r.span() + " " + r.span()
	}
}

// text of some lines, some of which have a byte that is another one.
func (r *rule) text() string {
	var text []byte
	for range r.below(30) {
		line := []byte(r.line() + "\n")
		if r.below(8) == 0 {
			line[r.below(len(line))] = byte(r.below(256))
		}
		text = append(text, line...)
	}
	return string(text)
}

// TestMadeUp: texts made up by a short rule.
func TestMadeUp(t *testing.T) {
	r := rule(1)
	for range 3000 {
		checkMeant(t, r.text())
	}
}

// TestMadeUpBeginnings: likewise, cut behind each line.
func TestMadeUpBeginnings(t *testing.T) {
	r := rule(2)
	for range 300 {
		if text := r.text(); len(text) <= api.MaxRun {
			checkBeginnings(t, text)
		}
	}
}

// TestAnyBytes: texts of any bytes, and of those alone that lines are made of.
func TestAnyBytes(t *testing.T) {
	r := rule(3)
	some := "0123456789.,- \nadelsthbymuprwngox"
	for range 20000 {
		text := make([]byte, r.below(60))
		few := r.below(3) > 0
		for i := range text {
			text[i] = byte(r.below(256))
			if few {
				text[i] = some[r.below(len(some))]
			}
		}
		checkMeant(t, string(text))
	}
}

// TestAgain: what is answered hangs on the text alone, not on what was asked ahead of it, nor on what is asked meanwhile.
func TestAgain(t *testing.T) {
	r := rule(4)
	texts := []string{"", "\n", session(), strings.Repeat("x", 3001)}
	for range 20 {
		texts = append(texts, r.text())
	}
	var want []string
	for _, text := range texts {
		want = append(want, run.Run(text))
	}
	for i := range slices.Backward(texts) {
		checkRun(t, texts[i], want[i])
	}
	var all sync.WaitGroup
	for range 4 {
		all.Go(func() {
			for i, text := range texts {
				checkRun(t, text, want[i])
			}
		})
	}
	all.Wait()
}

func FuzzRun(f *testing.F) {
	f.Add("")
	f.Add("\n")
	f.Add(session())
	for _, g := range good {
		f.Add(g.line)
	}
	for _, line := range placed {
		f.Add(strings.Replace(line, "@", "0.750", 1) + "\n" + strings.Replace(line, "@", "-1000000.000", 1))
	}
	f.Fuzz(func(t *testing.T, text string) {
		checkMeant(t, text)
		// Each line more is one more text to ask, so of long ones only the first bytes are gone over.
		checkBeginnings(t, text[:min(len(text), 500)])
	})
}
