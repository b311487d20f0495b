package tests

import (
	"math"
	"math/big"
	"regexp"
	"slices"
	"strconv"
	"strings"
	"testing"

	"loop.example/g00951/impl"
)

const limit = int64(impl.MaxValue)

// noValues are integers just beyond and far beyond both limits.
var noValues = []int64{limit + 1, -limit - 1, math.MaxInt64, math.MinInt64, math.MinInt64 + 1}

func TestConstantsOfChapter1(t *testing.T) {
	codes := []int64{impl.ErrNone, impl.ErrInvalid, impl.ErrRange, impl.ErrLimit, impl.ErrNotFound, impl.ErrState, impl.ErrSyntax}
	for want, code := range codes {
		if code != int64(want) {
			t.Errorf("error code %d is %d", want, code)
		}
	}
	if limit != 1000000000000 || impl.MaxList != 100 {
		t.Error("limits", limit, impl.MaxList)
	}
}

// Promise 2: a fraction lies between its bounds.

func TestDivisionsExamples(t *testing.T) {
	cases := []struct{ a, b, down, up, near int64 }{
		{7, 2, 3, 4, 4},
		{-7, 2, -4, -3, -3},
		{7, -2, -4, -3, -3},
		{-7, -2, 3, 4, 4},
		{6, 2, 3, 3, 3},
		{-6, 2, -3, -3, -3},
		{6, -2, -3, -3, -3},
		{-6, -2, 3, 3, 3},
		{0, 5, 0, 0, 0},
		{0, -5, 0, 0, 0},
		{1, 2, 0, 1, 1},
		{-1, 2, -1, 0, 0},
		{1, -2, -1, 0, 0},
		{-1, -2, 0, 1, 1},
		{1, 3, 0, 1, 0},
		{2, 3, 0, 1, 1},
		{-1, 3, -1, 0, 0},
		{-2, 3, -1, 0, -1},
		{2, -3, -1, 0, -1},
		{1, limit, 0, 1, 0},
		{-1, limit, -1, 0, 0},
		{1, -limit, -1, 0, 0},
		{limit, limit, 1, 1, 1},
		{-limit, limit, -1, -1, -1},
		{limit, -limit, -1, -1, -1},
		{-limit, -limit, 1, 1, 1},
		{limit, 1, limit, limit, limit},
		{limit, -1, -limit, -limit, -limit},
		{-limit, -1, limit, limit, limit},
		{limit - 1, limit, 0, 1, 1},
		{limit / 2, limit, 0, 1, 1},
		{-limit / 2, limit, -1, 0, 0},
		{limit/2 - 1, limit, 0, 1, 0},
		{limit, 3, 333333333333, 333333333334, 333333333333},
		{-limit, 3, -333333333334, -333333333333, -333333333333},
	}
	for _, c := range cases {
		down, up, near := divideAll(t, c.a, c.b)
		if down != c.down || up != c.up || near != c.near {
			t.Errorf("%d / %d: %d, %d, %d; want %d, %d, %d", c.a, c.b, down, up, near, c.down, c.up, c.near)
		}
	}
}

func TestFractionLiesBetweenItsBounds(t *testing.T) {
	for a := int64(-60); a <= 60; a++ {
		for b := int64(-25); b <= 25; b++ {
			if b != 0 {
				checkDivisions(t, a, b)
			}
		}
	}
	large := []int64{1, 2, 3, 7, 999, 1000003, 499999999999, 500000000000, 500000000001, 999999999989, limit - 1, limit}
	for _, a := range large {
		for _, b := range large {
			checkDivisions(t, a, b)
			checkDivisions(t, -a, b)
			checkDivisions(t, a, -b)
			checkDivisions(t, -a, -b)
		}
	}
}

func TestDivisionErrors(t *testing.T) {
	for _, n := range noValues {
		checkDivisionError(t, n, 1, impl.ErrRange)
		checkDivisionError(t, 1, n, impl.ErrRange)
		checkDivisionError(t, n, n, impl.ErrRange)
		// The range comes before the zero.
		checkDivisionError(t, n, 0, impl.ErrRange)
		checkDivisionError(t, 0, n, impl.ErrRange)
	}
	for _, a := range []int64{0, 1, -1, limit, -limit} {
		checkDivisionError(t, a, 0, impl.ErrState)
	}
}

func TestPowerOfTen(t *testing.T) {
	for n := int64(0); n <= 12; n++ {
		want, _ := strconv.ParseInt("1"+strings.Repeat("0", int(n)), 10, 64)
		if got, code := impl.PowerOfTen(n); got != want || code != impl.ErrNone {
			t.Errorf("PowerOfTen(%d) = %d, %d", n, got, code)
		}
	}
	for _, n := range []int64{-1, 13, 18, 19, limit, -limit, math.MaxInt64, math.MinInt64} {
		if got, code := impl.PowerOfTen(n); got != 0 || code != impl.ErrRange {
			t.Errorf("PowerOfTen(%d) = %d, %d", n, got, code)
		}
	}
}

func TestCountDigits(t *testing.T) {
	cases := map[int64]int64{0: 1, 1: 1, 5: 1, 42: 2, 123456: 6, limit - 1: 12, limit: 13}
	for power, digits := int64(10), int64(1); power <= limit; power, digits = power*10, digits+1 {
		cases[power-1] = digits
		cases[power] = digits + 1
	}
	for n, want := range cases {
		if got, code := impl.CountDigits(n); got != want || code != impl.ErrNone {
			t.Errorf("CountDigits(%d) = %d, %d; want %d", n, got, code, want)
		}
	}
	for _, n := range append([]int64{-1, -10, -limit}, noValues...) {
		if got, code := impl.CountDigits(n); got != 0 || code != impl.ErrRange {
			t.Errorf("CountDigits(%d) = %d, %d", n, got, code)
		}
	}
}

func TestNumberLiesBetweenPowersOfTen(t *testing.T) {
	for _, n := range []int64{1, 9, 10, 11, 99, 100, 5000, 99999, 123456789, 99999999999, 100000000000, limit - 1} {
		digits, _ := impl.CountDigits(n)
		low, first := impl.PowerOfTen(digits - 1)
		high, second := impl.PowerOfTen(digits)
		if first != impl.ErrNone || second != impl.ErrNone || n < low || n >= high {
			t.Errorf("%d with %d digits is not between %d and %d", n, digits, low, high)
		}
	}
}

func TestCommonDivisor(t *testing.T) {
	cases := []struct{ a, b, want int64 }{
		{0, 0, 0}, {0, 7, 7}, {7, 0, 7}, {0, -7, 7}, {-7, 0, 7}, {12, -18, 6}, {-12, -18, 6}, {18, 12, 6},
		{1, limit, 1}, {limit, 0, limit}, {-limit, 0, limit}, {-limit, limit, limit}, {-limit, -limit, limit},
		{limit, 1024, 1024}, {limit - 1, limit, 1}, {999999999989, 999999999989, 999999999989},
	}
	for _, c := range cases {
		if got, code := impl.CommonDivisor(c.a, c.b); got != c.want || code != impl.ErrNone {
			t.Errorf("CommonDivisor(%d, %d) = %d, %d; want %d", c.a, c.b, got, code, c.want)
		}
	}
	for a := int64(-40); a <= 40; a++ {
		for b := int64(-40); b <= 40; b++ {
			if got, code := impl.CommonDivisor(a, b); got != triedDivisor(a, b) || code != impl.ErrNone {
				t.Errorf("CommonDivisor(%d, %d) = %d, %d", a, b, got, code)
			}
		}
	}
	for _, n := range noValues {
		for _, v := range []int64{0, 1, -limit, n} {
			first, one := impl.CommonDivisor(n, v)
			second, two := impl.CommonDivisor(v, n)
			if first != 0 || second != 0 || one != impl.ErrRange || two != impl.ErrRange {
				t.Errorf("CommonDivisor of %d and %d: %d, %d and %d, %d", n, v, first, one, second, two)
			}
		}
	}
}

// Promise 1, for lists: they are recovered from their texts.

func TestListTexts(t *testing.T) {
	cases := []struct {
		list []int64
		text string
	}{
		{nil, "-"},
		{[]int64{}, "-"},
		{[]int64{0}, "0"},
		{[]int64{-1, 2}, "-1,2"},
		{[]int64{0, 0, 0}, "0,0,0"},
		{[]int64{10, -10, 100}, "10,-10,100"},
		{[]int64{limit, -limit}, "1000000000000,-1000000000000"},
		{make([]int64, impl.MaxList), strings.Repeat("0,", impl.MaxList-1) + "0"},
	}
	for _, c := range cases {
		if text, code := impl.ListText(c.list); text != c.text || code != impl.ErrNone {
			t.Errorf("ListText(%v) = %q, %d; want %q", c.list, text, code, c.text)
		}
		if list, code := impl.ReadList(c.text); !slices.Equal(list, c.list) || code != impl.ErrNone {
			t.Errorf("ReadList(%q) = %v, %d; want %v", c.text, list, code, c.list)
		}
	}
}

func TestListsAreRecoveredFromTheirTexts(t *testing.T) {
	values := []int64{0, 1, -1, 9, -9, 10, -10, 99, 1000, -1000000, limit - 1, 1 - limit, limit, -limit}
	for length := 0; length <= impl.MaxList; length++ {
		list := make([]int64, length)
		for i := range list {
			list[i] = values[(i*i+3*i+length)%len(values)]
		}
		text, code := impl.ListText(list)
		if code != impl.ErrNone {
			t.Fatalf("ListText(%v): error %d", list, code)
		}
		if again, code := impl.ReadList(text); !slices.Equal(again, list) || code != impl.ErrNone {
			t.Errorf("ReadList(%q) = %v, %d; want %v", text, again, code, list)
		}
	}
}

func TestListTextErrors(t *testing.T) {
	lists := [][]int64{make([]int64, impl.MaxList+1), make([]int64, 5*impl.MaxList)}
	for _, n := range noValues {
		lists = append(lists, []int64{n}, []int64{n, 0}, []int64{0, 1, n})
		full := make([]int64, impl.MaxList)
		full[impl.MaxList-1] = n
		lists = append(lists, full, append(full, n))
	}
	for _, list := range lists {
		if text, code := impl.ListText(list); text != "" || code != impl.ErrRange {
			t.Errorf("ListText(%v) = %q, %d", list, text, code)
		}
	}
}

func TestReadListRejectsTextsOfNothing(t *testing.T) {
	texts := []string{
		"", " ", ",", "--", "-,", ",-", "-,-", "-,1", "1,-", "1,", ",1", "1,,2", "1,2,", "--1", "-0", "0,-0", "+1", "1,+2", "+0",
		"00", "01", "-01", "1,02", " 1", "1 ", "1, 2", "1;2", "1.0", "1e3", "0x1", "1_000", "a", "1\n", "\t1", "1\x00", "\xff", "\u0661", "\uff11",
		"\u22121", "1000000000001", "-1000000000001", "0,1000000000001", "9223372036854775807", "9223372036854775808",
		"-9223372036854775808", "-9223372036854775809", "18446744073709551617", "18446744073709551616", "01000000000000",
		strings.Repeat("9", 1000), strings.Repeat("0", 1000), strings.Repeat("0,", impl.MaxList) + "0",
		strings.Repeat("0,", impl.MaxList), strings.Repeat(",", 100000),
	}
	for _, s := range texts {
		if list, code := impl.ReadList(s); list != nil || code != impl.ErrSyntax {
			t.Errorf("ReadList(%.60q) = %v, %d", s, list, code)
		}
	}
}

func TestReadListAcceptsExactlyTheTextsOfLists(t *testing.T) {
	grammar := regexp.MustCompile(`^(-|(0|-?[1-9][0-9]*)(,(0|-?[1-9][0-9]*))*)$`)
	texts := []string{""}
	for len(texts[0]) < 5 {
		longer := []string{}
		for _, s := range texts {
			checkReadList(t, s, grammar.MatchString(s))
			for _, c := range "-,01+ 9" {
				longer = append(longer, s+string(c))
			}
		}
		texts = longer
	}
	for _, s := range texts {
		checkReadList(t, s, grammar.MatchString(s))
	}
}

func TestListsShareNoMemory(t *testing.T) {
	backing := []int64{1, -2, 3, 77, 88}
	if text, code := impl.ListText(backing[:3]); text != "1,-2,3" || code != impl.ErrNone {
		t.Fatal("ListText", text, code)
	}
	if !slices.Equal(backing, []int64{1, -2, 3, 77, 88}) {
		t.Error("ListText has changed its argument:", backing)
	}
	first, _ := impl.ReadList("1,-2,3")
	first[0] = 9
	_ = append(first[:1], 9, 9)
	if second, _ := impl.ReadList("1,-2,3"); !slices.Equal(second, []int64{1, -2, 3}) {
		t.Error("results of ReadList share memory:", second)
	}
}

// divideAll returns the quotient rounded down, up and to the nearest integer.
func divideAll(t *testing.T, a, b int64) (down, up, near int64) {
	t.Helper()
	down, one := impl.DivideDown(a, b)
	up, two := impl.DivideUp(a, b)
	near, three := impl.DivideNear(a, b)
	if one != impl.ErrNone || two != impl.ErrNone || three != impl.ErrNone {
		t.Errorf("%d / %d: errors %d, %d, %d", a, b, one, two, three)
	}
	return down, up, near
}

// checkDivisions compares with the definition, in exact fractions.
func checkDivisions(t *testing.T, a, b int64) {
	t.Helper()
	down, up, near := divideAll(t, a, b)
	fraction := big.NewRat(a, b)
	below, above := big.NewRat(down, 1), big.NewRat(up, 1)
	one := big.NewRat(1, 1)
	if below.Cmp(fraction) > 0 || new(big.Rat).Add(below, one).Cmp(fraction) <= 0 {
		t.Errorf("DivideDown(%d, %d) = %d", a, b, down)
	}
	if above.Cmp(fraction) < 0 || new(big.Rat).Sub(above, one).Cmp(fraction) >= 0 {
		t.Errorf("DivideUp(%d, %d) = %d", a, b, up)
	}
	rest := new(big.Rat).Sub(fraction, big.NewRat(near, 1))
	if rest.Cmp(big.NewRat(-1, 2)) < 0 || rest.Cmp(big.NewRat(1, 2)) >= 0 {
		t.Errorf("DivideNear(%d, %d) = %d", a, b, near)
	}
}

func checkDivisionError(t *testing.T, a, b, want int64) {
	t.Helper()
	for name, divide := range map[string]func(int64, int64) (int64, int64){
		"DivideDown": impl.DivideDown, "DivideUp": impl.DivideUp, "DivideNear": impl.DivideNear,
	} {
		if got, code := divide(a, b); got != 0 || code != want {
			t.Errorf("%s(%d, %d) = %d, %d; want 0, %d", name, a, b, got, code, want)
		}
	}
}

// triedDivisor tries all candidates from the greatest one on.
func triedDivisor(a, b int64) int64 {
	for d := int64(40); d > 0; d-- {
		if a%d == 0 && b%d == 0 && (a != 0 || b != 0) {
			return d
		}
	}
	return 0
}

func checkReadList(t *testing.T, s string, valid bool) {
	t.Helper()
	list, code := impl.ReadList(s)
	if !valid {
		if list != nil || code != impl.ErrSyntax {
			t.Errorf("ReadList(%q) = %v, %d", s, list, code)
		}
		return
	}
	if text, two := impl.ListText(list); text != s || code != impl.ErrNone || two != impl.ErrNone {
		t.Errorf("ReadList(%q) = %v, %d, the text of which is %q", s, list, code, text)
	}
}
