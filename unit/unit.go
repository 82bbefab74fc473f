// Package unit has thousandths.
package unit

import (
	"strconv"
	"strings"

	"spanmeadow/api"
)

// longest is how many bytes a text may have: no number that may be needs more.
const longest = 12

// places is how many digits stand behind the point.
const places = 3

// MayBe tells whether a number is one that may be.
func MayBe(n int) bool {
	return -api.MaxNumber <= n && n <= api.MaxNumber
}

// Times gives the numbers next to what a and b stand for, times each other: from below, and from above.
func Times(a, b int) (int, int, error) {
	if !MayBe(a) || !MayBe(b) {
		return 0, 0, api.ErrRange
	}
	// Numbers that may be have products of at most 10^18, so nothing wraps round.
	return nextTo(a*b, api.One)
}

// By gives the numbers next to what a stands for by what b stands for: from below, and from above.
func By(a, b int) (int, int, error) {
	if !MayBe(a) || !MayBe(b) {
		return 0, 0, api.ErrRange
	}
	if b == 0 {
		return 0, 0, api.ErrZero
	}
	return nextTo(a*api.One, b)
}

// nextTo gives the numbers next to n by d, if both may be; d is not 0.
func nextTo(n, d int) (int, int, error) {
	below, above := around(n, d)
	if !MayBe(below) || !MayBe(above) {
		return 0, 0, api.ErrFull
	}
	return below, above, nil
}

// around gives n by d rounded down, and rounded up; d is not 0.
func around(n, d int) (int, int) {
	whole, rest := n/d, n%d
	if rest == 0 {
		return whole, whole
	}
	// Division cuts toward 0, so whole is above what is meant just where that is below 0.
	if (rest < 0) != (d < 0) {
		return whole - 1, whole
	}
	return whole, whole + 1
}

// Print writes a number: whole thousands, a point, and three digits.
func Print(n int) (string, error) {
	if !MayBe(n) {
		return "", api.ErrRange
	}
	if n < 0 {
		return "-" + written(-n), nil
	}
	return written(n), nil
}

// written is the text of a number from 0 on.
func written(n int) string {
	// The One ahead of the rest keeps its zeros, and is cut off again.
	return strconv.Itoa(n/api.One) + "." + strconv.Itoa(api.One + n%api.One)[1:]
}

// Parse reads a text of just the form that Print writes.
func Parse(text string) (int, error) {
	// The length is held ahead of reading, so that no text is too long to be reckoned.
	if len(text) > longest {
		return 0, api.ErrSyntax
	}
	n, ok := read(text)
	if !ok {
		return 0, api.ErrSyntax
	}
	if !MayBe(n) {
		return 0, api.ErrRange
	}
	return n, nil
}

// read tells what a text of at most longest bytes stands for, and whether it has the form of one.
func read(text string) (int, bool) {
	size, negative := strings.CutPrefix(text, "-")
	n, ok := readSize(size)
	if !negative {
		return n, ok
	}
	// 0 has no sign: Print never writes one there.
	return -n, ok && n != 0
}

// readSize is read of a text without a sign.
func readSize(text string) (int, bool) {
	whole, part, _ := strings.Cut(text, ".")
	// Without a point part is empty, which is not as many digits as places.
	if !isWhole(whole) || len(part) != places || !areDigits(part) {
		return 0, false
	}
	return value(whole)*api.One + value(part), true
}

// isWhole tells whether a text is decimal digits without a needless 0 ahead.
func isWhole(text string) bool {
	if text == "" || !areDigits(text) {
		return false
	}
	return text == "0" || text[0] != '0'
}

// areDigits tells whether all bytes of a text are decimal digits.
func areDigits(text string) bool {
	for i := range len(text) {
		if text[i] < '0' || text[i] > '9' {
			return false
		}
	}
	return true
}

// value of decimal digits, at most longest of them.
func value(digits string) int {
	n := 0
	for i := range len(digits) {
		n = n*10 + int(digits[i]-'0')
	}
	return n
}
