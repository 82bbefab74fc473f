package unit_test

import (
	"math"
	"math/big"
	"regexp"
	"strconv"
	"strings"
	"testing"

	"spanmeadow/api"
	"spanmeadow/plain"
	"spanmeadow/unit"
)

// most is the greatest number that may be.
const most = api.MaxNumber

// edges are numbers at which something turns, those that may not be among them.
var edges = []int{
	math.MinInt, math.MinInt + 1, math.MinInt32, -most - 1000, -most - 1, -most, -most + 1,
	-31622777, -31622776, -1000001, -1000000, -999999, -1001, -1000, -999, -501, -500, -3, -2, -1,
	0, 1, 2, 3, 7, 500, 999, 1000, 1001, 31622, 31623, 999999, 1000000, 1000001, 31622776, 31622777,
	most - 1, most, most + 1, most + 1000, math.MaxInt32, 1 << 32, 1 << 62, math.MaxInt - 1, math.MaxInt,
}

// pair is a call of two numbers, and what comes of it.
type pair struct {
	a, b, below, above int
	told               api.Errno
}

func checkPairs(t *testing.T, name string, call func(a, b int) (int, int, error), pairs []pair) {
	t.Helper()
	for _, p := range pairs {
		below, above, err := call(p.a, p.b)
		if below != p.below || above != p.above || plain.Told(err) != p.told {
			t.Errorf("%s(%d, %d) = %d, %d, %v; want %d, %d, %v",
				name, p.a, p.b, below, above, err, p.below, p.above, p.told)
		}
	}
}

// checkAgainst holds a call against one reckoned in great numbers, where nothing wraps round.
func checkAgainst(t *testing.T, name string, numbers []int,
	call func(a, b int) (int, int, error), meant func(a, b int) (int, int, api.Errno)) {
	t.Helper()
	for _, a := range numbers {
		for _, b := range numbers {
			below, above, told := meant(a, b)
			checkPairs(t, name, call, []pair{{a, b, below, above, told}})
		}
	}
}

func mayBe(numbers ...int) bool {
	for _, n := range numbers {
		if n < -most || n > most {
			return false
		}
	}
	return true
}

// quotient finds both answers by what they are said to be: the greatest that is no greater, the least that is no less.
func quotient(n, d *big.Int) (int, int, api.Errno) {
	if d.Sign() < 0 {
		n, d = new(big.Int).Neg(n), new(big.Int).Neg(d)
	}
	below, rest := new(big.Int).DivMod(n, d, new(big.Int))
	above := new(big.Int).Set(below)
	if rest.Sign() != 0 {
		above.Add(above, big.NewInt(1))
	}
	bound := big.NewInt(most)
	if below.CmpAbs(bound) > 0 || above.CmpAbs(bound) > 0 {
		return 0, 0, api.ErrFull
	}
	return int(below.Int64()), int(above.Int64()), api.OK
}

func timesMeant(a, b int) (int, int, api.Errno) {
	if !mayBe(a, b) {
		return 0, 0, api.ErrRange
	}
	return quotient(new(big.Int).Mul(big.NewInt(int64(a)), big.NewInt(int64(b))), big.NewInt(1000))
}

func byMeant(a, b int) (int, int, api.Errno) {
	if !mayBe(a, b) {
		return 0, 0, api.ErrRange
	}
	if b == 0 {
		return 0, 0, api.ErrZero
	}
	return quotient(new(big.Int).Mul(big.NewInt(int64(a)), big.NewInt(1000)), big.NewInt(int64(b)))
}

// smallNumbers are those next to 0, and some further ones.
func smallNumbers() []int {
	var numbers []int
	for n := -130; n <= 130; n++ {
		numbers = append(numbers, n, n*37)
	}
	return numbers
}

func TestMayBe(t *testing.T) {
	for _, n := range edges {
		if got := unit.MayBe(n); got != mayBe(n) {
			t.Errorf("MayBe(%d) = %v", n, got)
		}
	}
}

func TestTimes(t *testing.T) {
	checkPairs(t, "Times", unit.Times, []pair{
		{2000, 3000, 6000, 6000, api.OK},
		{1500, 1500, 2250, 2250, api.OK},
		{1001, 1001, 1002, 1003, api.OK},
		{-1001, 1001, -1003, -1002, api.OK},
		{1001, -1001, -1003, -1002, api.OK},
		{-1001, -1001, 1002, 1003, api.OK},
		{1, 1, 0, 1, api.OK},
		{-1, 1, -1, 0, api.OK},
		{1, 999, 0, 1, api.OK},
		{1, 1000, 1, 1, api.OK},
		{0, 0, 0, 0, api.OK},
		{0, -most, 0, 0, api.OK},
		{most, 0, 0, 0, api.OK},
		{most, 1000, most, most, api.OK},
		{-most, 1000, -most, -most, api.OK},
		{-most, -1000, most, most, api.OK},
		{most, 1, 1000000, 1000000, api.OK},
	})
}

func TestTimesFull(t *testing.T) {
	checkPairs(t, "Times", unit.Times, []pair{
		{most, 1001, 0, 0, api.ErrFull},
		{most, most, 0, 0, api.ErrFull},
		{-most, most, 0, 0, api.ErrFull},
		{-most, -most, 0, 0, api.ErrFull},
		{27777789, 36000, 0, 0, api.ErrFull},
		{31622777, 31623, 0, 0, api.ErrFull},
		// Only the one further from 0 would be none that may be.
		{997008974, 1003, 0, 0, api.ErrFull},
		{-997008974, 1003, 0, 0, api.ErrFull},
		// Just below that both are.
		{999000999, 1001, 999999999, most, api.OK},
		{-999000999, 1001, -most, -999999999, api.OK},
	})
}

// TestTimesOneSideFull asks products where only one of both answers is beyond what may be.
func TestTimesOneSideFull(t *testing.T) {
	found := 0
	for b := 1001; b < 1400; b++ {
		a := most * 1000 / b
		for ; a*b <= most*1000; a++ {
		}
		if a*b >= most*1000+1000 {
			continue
		}
		found++
		checkPairs(t, "Times", unit.Times, []pair{
			{a, b, 0, 0, api.ErrFull},
			{-a, b, 0, 0, api.ErrFull},
			{a, -b, 0, 0, api.ErrFull},
			{-a, -b, 0, 0, api.ErrFull},
		})
	}
	if found == 0 {
		t.Error("no such product was asked")
	}
}

func TestTimesRange(t *testing.T) {
	checkPairs(t, "Times", unit.Times, []pair{
		{most + 1, 0, 0, 0, api.ErrRange},
		{0, most + 1, 0, 0, api.ErrRange},
		{-most - 1, 1, 0, 0, api.ErrRange},
		{1, -most - 1, 0, 0, api.ErrRange},
		{math.MinInt, -1, 0, 0, api.ErrRange},
		{-1, math.MinInt, 0, 0, api.ErrRange},
		{math.MaxInt, math.MaxInt, 0, 0, api.ErrRange},
		// Beyond what may be as well: the wrong number is told first.
		{most + 1, most, 0, 0, api.ErrRange},
	})
}

func TestTimesAll(t *testing.T) {
	checkAgainst(t, "Times", edges, unit.Times, timesMeant)
	checkAgainst(t, "Times", smallNumbers(), unit.Times, timesMeant)
}

func TestBy(t *testing.T) {
	checkPairs(t, "By", unit.By, []pair{
		{6000, 3000, 2000, 2000, api.OK},
		{1000, 3000, 333, 334, api.OK},
		{-1000, 3000, -334, -333, api.OK},
		{1000, -3000, -334, -333, api.OK},
		{-1000, -3000, 333, 334, api.OK},
		{1, most, 0, 1, api.OK},
		{-1, most, -1, 0, api.OK},
		{1, -most, -1, 0, api.OK},
		{0, -1, 0, 0, api.OK},
		{0, most, 0, 0, api.OK},
		{most, most, 1000, 1000, api.OK},
		{-most, most, -1000, -1000, api.OK},
		{most, 1000, most, most, api.OK},
		{-most, 1000, -most, -most, api.OK},
		{1000000, 1, most, most, api.OK},
		{1000000, -1, -most, -most, api.OK},
	})
}

func TestByFull(t *testing.T) {
	checkPairs(t, "By", unit.By, []pair{
		{1000001, 1, 0, 0, api.ErrFull},
		{1000001, -1, 0, 0, api.ErrFull},
		{most, 999, 0, 0, api.ErrFull},
		{-most, 1, 0, 0, api.ErrFull},
		{-most, -1, 0, 0, api.ErrFull},
		{most, 1, 0, 0, api.ErrFull},
		{999999999, 999, 0, 0, api.ErrFull},
		{999000000, 999, most, most, api.OK},
		{998999999, 999, 999999998, 999999999, api.OK},
	})
}

func TestByRangeAndZero(t *testing.T) {
	checkPairs(t, "By", unit.By, []pair{
		{0, 0, 0, 0, api.ErrZero},
		{1, 0, 0, 0, api.ErrZero},
		{-most, 0, 0, 0, api.ErrZero},
		{most, 0, 0, 0, api.ErrZero},
		// The wrong number is told ahead of the 0, and of what would be beyond.
		{most + 1, 0, 0, 0, api.ErrRange},
		{math.MinInt, 0, 0, 0, api.ErrRange},
		{most + 1, 1, 0, 0, api.ErrRange},
		{-most - 1, 1000, 0, 0, api.ErrRange},
		{0, most + 1, 0, 0, api.ErrRange},
		{0, -most - 1, 0, 0, api.ErrRange},
		{math.MinInt, -1, 0, 0, api.ErrRange},
		{math.MaxInt, math.MinInt, 0, 0, api.ErrRange},
	})
}

func TestByAll(t *testing.T) {
	checkAgainst(t, "By", edges, unit.By, byMeant)
	checkAgainst(t, "By", smallNumbers(), unit.By, byMeant)
}

func TestPrint(t *testing.T) {
	for _, c := range []struct {
		n    int
		text string
		told api.Errno
	}{
		{0, "0.000", api.OK},
		{1, "0.001", api.OK},
		{-1, "-0.001", api.OK},
		{10, "0.010", api.OK},
		{-100, "-0.100", api.OK},
		{999, "0.999", api.OK},
		{1000, "1.000", api.OK},
		{-1000, "-1.000", api.OK},
		{-1001, "-1.001", api.OK},
		{1234567, "1234.567", api.OK},
		{10000, "10.000", api.OK},
		{most - 1, "999999.999", api.OK},
		{most, "1000000.000", api.OK},
		{-most, "-1000000.000", api.OK},
		{most + 1, "", api.ErrRange},
		{-most - 1, "", api.ErrRange},
		{math.MaxInt, "", api.ErrRange},
		{math.MinInt, "", api.ErrRange},
	} {
		text, err := unit.Print(c.n)
		if text != c.text || plain.Told(err) != c.told {
			t.Errorf("Print(%d) = %q, %v; want %q, %v", c.n, text, err, c.text, c.told)
		}
	}
}

// readings are texts, and what comes of reading them.
var readings = []struct {
	text string
	n    int
	told api.Errno
}{
	{"0.000", 0, api.OK},
	{"0.001", 1, api.OK},
	{"-0.001", -1, api.OK},
	{"0.010", 10, api.OK},
	{"1.000", 1000, api.OK},
	{"-1.001", -1001, api.OK},
	{"10.000", 10000, api.OK},
	{"1234.567", 1234567, api.OK},
	{"999999.999", most - 1, api.OK},
	{"1000000.000", most, api.OK},
	{"-1000000.000", -most, api.OK},
	{"1000000.001", 0, api.ErrRange},
	{"-1000000.001", 0, api.ErrRange},
	{"9999999.999", 0, api.ErrRange},
	{"-9999999.999", 0, api.ErrRange},
	{"10000000.000", 0, api.ErrRange},
	{"99999999.999", 0, api.ErrRange},
	// Of 13 bytes, and more: the form is told ahead of the number.
	{"-10000000.000", 0, api.ErrSyntax},
	{"100000000.000", 0, api.ErrSyntax},
	{"0000000000.000", 0, api.ErrSyntax},
	{"99999999999999999999999999.000", 0, api.ErrSyntax},
	// Of 12 bytes, of no form.
	{"00000000.000", 0, api.ErrSyntax},
	{"9999999.9999", 0, api.ErrSyntax},
	{"999999999999", 0, api.ErrSyntax},
	{"-01000000.00", 0, api.ErrSyntax},
	{"", 0, api.ErrSyntax},
	{"-", 0, api.ErrSyntax},
	{".", 0, api.ErrSyntax},
	{"-.", 0, api.ErrSyntax},
	{"0", 0, api.ErrSyntax},
	{"1000", 0, api.ErrSyntax},
	{"0.", 0, api.ErrSyntax},
	{"0.00", 0, api.ErrSyntax},
	{"0.0000", 0, api.ErrSyntax},
	{".000", 0, api.ErrSyntax},
	{"-.001", 0, api.ErrSyntax},
	{"-0.000", 0, api.ErrSyntax},
	{"--0.001", 0, api.ErrSyntax},
	{"+0.001", 0, api.ErrSyntax},
	{"00.000", 0, api.ErrSyntax},
	{"01.000", 0, api.ErrSyntax},
	{"-01.000", 0, api.ErrSyntax},
	{"1,000", 0, api.ErrSyntax},
	{"1.0.0", 0, api.ErrSyntax},
	{"1..000", 0, api.ErrSyntax},
	{"1.-00", 0, api.ErrSyntax},
	{"1.000.", 0, api.ErrSyntax},
	{" 1.000", 0, api.ErrSyntax},
	{"1.000 ", 0, api.ErrSyntax},
	{"1.000\n", 0, api.ErrSyntax},
	{"1.000\x00", 0, api.ErrSyntax},
	{"1e1.000", 0, api.ErrSyntax},
	{"1_0.000", 0, api.ErrSyntax},
	{"0x1.000", 0, api.ErrSyntax},
	{"1.0a0", 0, api.ErrSyntax},
	{"1.0/0", 0, api.ErrSyntax},
	{"1.0:0", 0, api.ErrSyntax},
	{"/.000", 0, api.ErrSyntax},
	{":.000", 0, api.ErrSyntax},
	{"\xff.000", 0, api.ErrSyntax},
	{"1.\u0661", 0, api.ErrSyntax},
	{"\u0661.000", 0, api.ErrSyntax},
	{"\u22121.000", 0, api.ErrSyntax},
}

func TestParse(t *testing.T) {
	for _, c := range readings {
		checkParse(t, c.text, c.n, c.told)
	}
}

func checkParse(t *testing.T, text string, n int, told api.Errno) {
	t.Helper()
	got, err := unit.Parse(text)
	if got != n || plain.Told(err) != told {
		t.Errorf("Parse(%q) = %d, %v; want %d, %v", text, got, err, n, told)
	}
}

var form = regexp.MustCompile(`\A-?(0|[1-9][0-9]*)\.[0-9]{3}\z`)

// parseMeant reads a text by the form that the document tells.
func parseMeant(text string) (int, api.Errno) {
	if len(text) > 12 || !form.MatchString(text) || text == "-0.000" {
		return 0, api.ErrSyntax
	}
	n, err := strconv.Atoi(strings.Replace(text, ".", "", 1))
	if err != nil || !mayBe(n) {
		return 0, api.ErrRange
	}
	return n, api.OK
}

// TestParseAllShort asks every text of few bytes of an alphabet that has all that the form is made of, and more.
func TestParseAllShort(t *testing.T) {
	texts := []string{""}
	for range 7 {
		var longer []string
		for _, text := range texts {
			n, told := parseMeant(text)
			checkParse(t, text, n, told)
			for _, next := range "-.09x" {
				longer = append(longer, text+string(next))
			}
		}
		texts = longer
	}
}

// TestParseChanged asks texts that differ from one of the form by one byte: another, one fewer, one more.
func TestParseChanged(t *testing.T) {
	for _, text := range []string{"0.000", "-0.001", "12.345", "1000000.000", "-1000000.000", "-999999.999"} {
		for at := range len(text) + 1 {
			for b := range 256 {
				checkMeant(t, text[:at]+string([]byte{byte(b)})+text[at:])
				if at < len(text) {
					checkMeant(t, text[:at]+string([]byte{byte(b)})+text[at+1:])
				}
			}
			if at < len(text) {
				checkMeant(t, text[:at]+text[at+1:])
			}
		}
	}
}

func checkMeant(t *testing.T, text string) {
	t.Helper()
	n, told := parseMeant(text)
	checkParse(t, text, n, told)
}

// TestPrintThenParse: what is printed is read as what it was, and has at most 12 bytes.
func TestPrintThenParse(t *testing.T) {
	numbers := append(smallNumbers(), edges...)
	for n := -most; n <= most; n += 999983 {
		numbers = append(numbers, n)
	}
	for _, n := range numbers {
		if !mayBe(n) {
			continue
		}
		text, err := unit.Print(n)
		if err != nil || len(text) > 12 {
			t.Errorf("Print(%d) = %q, %v", n, text, err)
		}
		checkParse(t, text, n, api.OK)
	}
}

func TestLongTextsEnd(t *testing.T) {
	for _, text := range []string{
		strings.Repeat("9", 1<<20),
		strings.Repeat("9", 1<<20) + ".000",
		strings.Repeat("-", 1<<20),
		"0." + strings.Repeat("0", 1<<20),
	} {
		if n, err := unit.Parse(text); n != 0 || plain.Told(err) != api.ErrSyntax {
			t.Errorf("Parse of %d bytes = %d, %v", len(text), n, err)
		}
	}
}

// FuzzParse holds any text against the form that the document tells.
func FuzzParse(f *testing.F) {
	for _, c := range readings {
		f.Add(c.text)
	}
	f.Fuzz(checkMeant)
}

// FuzzTimesBy holds any two numbers against what is reckoned in great ones.
func FuzzTimesBy(f *testing.F) {
	f.Add(2000, 3)
	f.Add(math.MinInt, -1)
	f.Fuzz(func(t *testing.T, a, b int) {
		checkAgainst(t, "Times", []int{a, b}, unit.Times, timesMeant)
		checkAgainst(t, "By", []int{a, b}, unit.By, byMeant)
	})
}
