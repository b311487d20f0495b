package tests

import (
	"math"
	"math/big"
	"regexp"
	"strconv"
	"strings"
	"testing"

	"loop.example/g00951/impl"
)

func figure(digits, tens int64) impl.Figure { return impl.Figure{Digits: digits, Tens: tens} }

var none = impl.Figure{}

// noFigures are just beyond and far beyond each bound of a figure.
var noFigures = []impl.Figure{
	{}, figure(999, 0), figure(10000, 0), figure(1000, 31), figure(1000, -31), figure(9999, 31), figure(9999, -31),
	figure(0, 0), figure(-1000, 0), figure(-9999, 0), figure(1, 0), figure(100000, 0), figure(999, 31), figure(10000, -31),
	figure(math.MaxInt64, 0), figure(math.MinInt64, 0), figure(1000, math.MaxInt64), figure(9999, math.MinInt64),
	figure(math.MinInt64, math.MinInt64), figure(math.MaxInt64, math.MaxInt64),
}

// someDigits are bounds and numbers whose products and quotients round in all ways.
var someDigits = []int64{1000, 1001, 1002, 1249, 1250, 1251, 1414, 1999, 2000, 2001, 2500, 3000, 3162, 3163, 3333, 4999, 5000, 5001, 6000, 6667, 7500, 8000, 9949, 9950, 9960, 9990, 9995, 9996, 9998, 9999}

func TestConstantsOfChapter2(t *testing.T) {
	if impl.MaxTens != 30 {
		t.Error("MaxTens", impl.MaxTens)
	}
}

func TestIsFigure(t *testing.T) {
	for _, f := range []impl.Figure{figure(1000, 0), figure(9999, 0), figure(1000, 30), figure(9999, 30), figure(1000, -30), figure(9999, -30), figure(6667, -1)} {
		if !impl.IsFigure(f) {
			t.Error(f, "is a figure")
		}
	}
	for _, f := range noFigures {
		if impl.IsFigure(f) {
			t.Error(f, "is no figure")
		}
	}
}

// Promise 3: a rounded product is off by at most half of a unit of its last digit.

func TestMakeFigureExamples(t *testing.T) {
	cases := []struct {
		n, d int64
		want impl.Figure
	}{
		{2, 3, figure(6667, -1)},
		{1, 3, figure(3333, -1)},
		{1, 1, figure(1000, 0)},
		{10, 1, figure(1000, 1)},
		{1, 10, figure(1000, -1)},
		{9999, 1, figure(9999, 3)},
		{10000, 1, figure(1000, 4)},
		{10001, 1, figure(1000, 4)},
		{10004, 1, figure(1000, 4)},
		{10005, 1, figure(1001, 4)},
		{12344999, 1000, figure(1234, 4)},
		{12345, 1, figure(1235, 4)},
		{12355, 1, figure(1236, 4)},
		{99994, 1, figure(9999, 4)},
		{9999499, 100, figure(9999, 4)},
		{99995, 1, figure(1000, 5)},
		{99999, 1, figure(1000, 5)},
		{99995, 100000, figure(1000, 0)},
		{99994, 100000, figure(9999, -1)},
		{999999999, 1000000000, figure(1000, 0)},
		{999949999, 1000000000, figure(9999, -1)},
		{999950000, 1000000000, figure(1000, 0)},
		{1000000000, 999999999, figure(1000, 0)},
		{1000000000, 1, figure(1000, 9)},
		{999999999, 1, figure(1000, 9)},
		{1, 1000000000, figure(1000, -9)},
		{1, 999999999, figure(1000, -9)},
		{1000000000, 1000000000, figure(1000, 0)},
		{22, 7, figure(3143, 0)},
	}
	for _, c := range cases {
		if got, code := impl.MakeFigure(c.n, c.d); got != c.want || code != impl.ErrNone {
			t.Errorf("MakeFigure(%d, %d) = %v, %d; want %v", c.n, c.d, got, code, c.want)
		}
	}
}

func TestMadeFiguresAreNearest(t *testing.T) {
	terms := []int64{99949, 99950, 99951, 123456, 1234549, 1234550, 99995000, 99994999, 314159265, 500000000, 999949999, 999950000, 999999937, 999999999, 1000000000}
	for n := int64(1); n <= 60; n++ {
		terms = append(terms, n)
	}
	for power := int64(100); power <= 100000000; power *= 10 {
		terms = append(terms, power-1, power, power+1)
	}
	for _, n := range terms {
		for _, d := range terms {
			got, code := impl.MakeFigure(n, d)
			checkRounded(t, "MakeFigure", big.NewRat(n, d), got, code)
		}
	}
}

func TestMakeFigureErrors(t *testing.T) {
	for _, n := range []int64{0, -1, -1000000000, 1000000001, math.MaxInt64, math.MinInt64} {
		for _, d := range []int64{1, 1000000000, n} {
			checkFigure(t, "MakeFigure", none, impl.ErrRange)(impl.MakeFigure(n, d))
			checkFigure(t, "MakeFigure", none, impl.ErrRange)(impl.MakeFigure(d, n))
		}
	}
}

func TestMultiplyFiguresExamples(t *testing.T) {
	cases := []struct{ a, b, want impl.Figure }{
		{figure(2000, 0), figure(6000, 0), figure(1200, 1)},
		{figure(1000, 0), figure(1000, 0), figure(1000, 0)},
		{figure(9999, 0), figure(9999, 0), figure(9998, 1)},
		{figure(1250, 0), figure(1002, 0), figure(1253, 0)},
		{figure(1250, 0), figure(1001, 0), figure(1251, 0)},
		{figure(5000, 0), figure(2001, 0), figure(1001, 1)},
		{figure(5000, 0), figure(2000, 0), figure(1000, 1)},
		// 9.99999 is rounded up to 10000 digits.
		{figure(1001, 0), figure(9990, 0), figure(1000, 1)},
		{figure(1001, -5), figure(9990, 3), figure(1000, -1)},
		{figure(2000, 30), figure(3000, -30), figure(6000, 0)},
		{figure(1000, 15), figure(9999, 15), figure(9999, 30)},
		{figure(1000, -30), figure(1000, 0), figure(1000, -30)},
		{figure(5000, -15), figure(2000, -16), figure(1000, -30)},
	}
	for _, c := range cases {
		checkFigure(t, "MultiplyFigures", c.want, impl.ErrNone)(impl.MultiplyFigures(c.a, c.b))
		checkFigure(t, "MultiplyFigures", c.want, impl.ErrNone)(impl.MultiplyFigures(c.b, c.a))
	}
}

func TestDivideFiguresExamples(t *testing.T) {
	cases := []struct{ a, b, want impl.Figure }{
		{figure(1000, 0), figure(3000, 0), figure(3333, -1)},
		{figure(2000, 0), figure(3000, 0), figure(6667, -1)},
		{figure(9999, 0), figure(9999, 0), figure(1000, 0)},
		{figure(9999, 0), figure(1000, 0), figure(9999, 0)},
		{figure(9998, 0), figure(9999, 0), figure(9999, -1)},
		{figure(1000, 0), figure(9999, 0), figure(1000, -1)},
		{figure(2001, 0), figure(2000, 0), figure(1001, 0)},
		{figure(6000, 30), figure(2000, 30), figure(3000, 0)},
		{figure(6000, -30), figure(2000, -30), figure(3000, 0)},
		{figure(6000, 15), figure(2000, -15), figure(3000, 30)},
		{figure(6000, -15), figure(2000, 15), figure(3000, -30)},
		{figure(1000, 15), figure(2000, -16), figure(5000, 30)},
		{figure(1000, -15), figure(2000, 14), figure(5000, -30)},
	}
	for _, c := range cases {
		checkFigure(t, "DivideFigures", c.want, impl.ErrNone)(impl.DivideFigures(c.a, c.b))
	}
}

func TestRoundedProductsAndQuotientsAreNearest(t *testing.T) {
	for _, m := range someDigits {
		for _, n := range someDigits {
			for _, tens := range [][2]int64{{0, 0}, {-1, 1}, {7, -3}, {14, 14}, {-14, -14}, {30, -30}} {
				a, b := figure(m, tens[0]), figure(n, tens[1])
				got, code := impl.MultiplyFigures(a, b)
				checkRounded(t, "MultiplyFigures", new(big.Rat).Mul(fraction(a), fraction(b)), got, code)
				c := figure(n, -tens[1])
				got, code = impl.DivideFigures(a, c)
				checkRounded(t, "DivideFigures", new(big.Rat).Quo(fraction(a), fraction(c)), got, code)
			}
		}
	}
}

func TestProductsJustOutOfRange(t *testing.T) {
	cases := []struct{ a, b impl.Figure }{
		{figure(1000, 30), figure(1000, 1)},
		{figure(1000, 16), figure(1000, 15)},
		{figure(5000, 30), figure(2000, 0)},
		{figure(5000, 15), figure(2000, 15)},
		{figure(1001, 30), figure(9990, 0)},
		{figure(9999, 30), figure(9999, 30)},
		{figure(4999, -15), figure(2000, -16)},
		{figure(9989, -15), figure(1001, -16)},
		{figure(9999, -30), figure(1000, -1)},
		{figure(1000, -30), figure(1000, -30)},
	}
	for _, c := range cases {
		checkFigure(t, "MultiplyFigures", none, impl.ErrLimit)(impl.MultiplyFigures(c.a, c.b))
		checkFigure(t, "MultiplyFigures", none, impl.ErrLimit)(impl.MultiplyFigures(c.b, c.a))
	}
	// 9.99999e30 is out of range only by its rounding; 9.99999e-31 comes into it.
	checkFigure(t, "MultiplyFigures", figure(9989, 30), impl.ErrNone)(impl.MultiplyFigures(figure(9989, 30), figure(1000, 0)))
	checkFigure(t, "MultiplyFigures", figure(1000, -30), impl.ErrNone)(impl.MultiplyFigures(figure(1001, -30), figure(9990, -1)))
}

func TestQuotientsJustOutOfRange(t *testing.T) {
	cases := []struct{ a, b impl.Figure }{
		{figure(1000, 30), figure(1000, -1)},
		{figure(2000, 16), figure(1000, -15)},
		{figure(9999, 30), figure(1000, -30)},
		{figure(1000, -30), figure(1001, 0)},
		{figure(1000, -15), figure(2000, 15)},
		{figure(1000, -30), figure(1000, 1)},
		{figure(1000, -30), figure(9999, 30)},
	}
	for _, c := range cases {
		checkFigure(t, "DivideFigures", none, impl.ErrLimit)(impl.DivideFigures(c.a, c.b))
	}
}

func TestRoundFigure(t *testing.T) {
	cases := []struct {
		a      impl.Figure
		digits int64
		want   impl.Figure
	}{
		{figure(9960, 0), 2, figure(1000, 1)},
		{figure(1234, 5), 4, figure(1234, 5)},
		{figure(1234, 5), 3, figure(1230, 5)},
		{figure(1234, 5), 2, figure(1200, 5)},
		{figure(1234, 5), 1, figure(1000, 5)},
		{figure(1235, 0), 3, figure(1240, 0)},
		{figure(1249, 0), 2, figure(1200, 0)},
		{figure(1250, 0), 2, figure(1300, 0)},
		{figure(1499, 0), 1, figure(1000, 0)},
		{figure(1500, 0), 1, figure(2000, 0)},
		{figure(2500, 0), 1, figure(3000, 0)},
		{figure(9994, 0), 3, figure(9990, 0)},
		{figure(9995, 0), 3, figure(1000, 1)},
		{figure(9949, 0), 2, figure(9900, 0)},
		{figure(9950, 0), 2, figure(1000, 1)},
		{figure(9499, 0), 1, figure(9000, 0)},
		{figure(9500, 0), 1, figure(1000, 1)},
		{figure(1000, -30), 1, figure(1000, -30)},
		{figure(9999, -30), 1, figure(1000, -29)},
		{figure(9999, 30), 4, figure(9999, 30)},
		{figure(9994, 30), 3, figure(9990, 30)},
		{figure(9999, 29), 3, figure(1000, 30)},
	}
	for _, c := range cases {
		checkFigure(t, "RoundFigure", c.want, impl.ErrNone)(impl.RoundFigure(c.a, c.digits))
	}
	for digits := int64(1); digits <= 4; digits++ {
		unit := int64(math.Pow10(int(4 - digits)))
		for n := int64(1000); n <= 9999; n++ {
			got, code := impl.RoundFigure(figure(n, -2), digits)
			off := got.Digits - n
			if got.Tens == -1 {
				off = got.Digits*10 - n
			}
			if code != impl.ErrNone || !impl.IsFigure(got) || got.Digits%unit != 0 || 2*off > unit || 2*off <= -unit {
				t.Errorf("RoundFigure(%d, %d) = %v, %d", n, digits, got, code)
			}
		}
	}
}

func TestRoundFigureErrors(t *testing.T) {
	for _, digits := range []int64{0, 5, -1, 13, -8, math.MaxInt64, math.MinInt64} {
		checkFigure(t, "RoundFigure", none, impl.ErrRange)(impl.RoundFigure(figure(1000, 0), digits))
		// The digits are checked before the result.
		checkFigure(t, "RoundFigure", none, impl.ErrRange)(impl.RoundFigure(figure(9999, 30), digits))
	}
	for _, f := range []impl.Figure{figure(9995, 30), figure(9999, 30)} {
		checkFigure(t, "RoundFigure", none, impl.ErrLimit)(impl.RoundFigure(f, 3))
	}
	checkFigure(t, "RoundFigure", none, impl.ErrLimit)(impl.RoundFigure(figure(9950, 30), 2))
	checkFigure(t, "RoundFigure", none, impl.ErrLimit)(impl.RoundFigure(figure(9500, 30), 1))
}

func TestCompareFigures(t *testing.T) {
	figures := []impl.Figure{}
	for _, tens := range []int64{-30, -29, -1, 0, 1, 2, 29, 30} {
		for _, digits := range []int64{1000, 1001, 5000, 9998, 9999} {
			figures = append(figures, figure(digits, tens))
		}
	}
	for i, a := range figures {
		for j, b := range figures {
			want := int64(fraction(a).Cmp(fraction(b)))
			if got, code := impl.CompareFigures(a, b); got != want || code != impl.ErrNone || (want > 0) != (i > j) {
				t.Errorf("CompareFigures(%v, %v) = %d, %d; want %d", a, b, got, code, want)
			}
		}
	}
}

func TestRelativeErrorExamples(t *testing.T) {
	cases := []struct {
		a, b impl.Figure
		want int64
	}{
		{figure(1010, 0), figure(1000, 0), 10000},
		{figure(1000, 0), figure(1010, 0), 9901},
		{figure(1000, 0), figure(1000, 0), 0},
		{figure(9999, 30), figure(9999, 30), 0},
		{figure(1000, 0), figure(9999, -1), 101},
		{figure(9999, -1), figure(1000, 0), 100},
		{figure(1001, 0), figure(1000, 0), 1000},
		{figure(9999, 0), figure(9998, 0), 101},
		{figure(9999, 0), figure(1000, 0), 8999000},
		{figure(1000, 1), figure(1000, 0), 9000000},
		{figure(9999, 1), figure(9999, 0), 9000000},
		{figure(9999, -29), figure(9999, -30), 9000000},
		{figure(9998, 1), figure(9999, 0), 8999000},
		{figure(1000, 0), figure(1000, 1), 900000},
		{figure(1000, 0), figure(1000, 6), 999999},
		{figure(1001, 0), figure(1000, 6), 999999},
		{figure(1000, 0), figure(1000, 7), 1000000},
		{figure(9999, 0), figure(1000, 7), 1000000},
		{figure(9999, -30), figure(1000, -23), 1000000},
		{figure(9999, 0), figure(1000, 6), 999991},
		{figure(1000, 0), figure(9999, 8), 1000000},
		{figure(1000, 0), figure(9999, 9), 1000000},
		{figure(1000, -30), figure(9999, 30), 1000000},
		{figure(9999, -30), figure(1000, 30), 1000000},
	}
	for _, c := range cases {
		if got, code := impl.RelativeError(c.a, c.b); got != c.want || code != impl.ErrNone {
			t.Errorf("RelativeError(%v, %v) = %d, %d; want %d", c.a, c.b, got, code, c.want)
		}
	}
}

func TestRelativeErrorsAboveTheLimit(t *testing.T) {
	cases := []struct{ a, b impl.Figure }{
		{figure(9999, 1), figure(9998, 0)}, {figure(1001, 1), figure(1000, 0)}, {figure(1000, 2), figure(9999, 0)}, {figure(1000, 2), figure(1000, 0)},
		{figure(1000, 7), figure(9999, -2)}, {figure(9999, 30), figure(1000, -30)}, {figure(1000, 30), figure(9999, -30)}, {figure(1000, 20), figure(1000, 0)},
	}
	for _, c := range cases {
		if got, code := impl.RelativeError(c.a, c.b); got != 0 || code != impl.ErrLimit {
			t.Errorf("RelativeError(%v, %v) = %d, %d", c.a, c.b, got, code)
		}
	}
}

func TestRelativeErrorsAreRoundedUp(t *testing.T) {
	for _, m := range someDigits {
		for _, n := range someDigits {
			for tens := int64(-60); tens <= 60; tens++ {
				a, b := figure(m, tens/2), figure(n, tens/2-tens)
				checkRelativeError(t, a, b)
			}
		}
	}
}

func TestInvalidFiguresComeFirst(t *testing.T) {
	for _, f := range noFigures {
		for _, g := range []impl.Figure{figure(1000, 0), figure(9999, 30), figure(9999, -30), f} {
			for _, pair := range [][2]impl.Figure{{f, g}, {g, f}} {
				a, b := pair[0], pair[1]
				checkFigure(t, "MultiplyFigures", none, impl.ErrInvalid)(impl.MultiplyFigures(a, b))
				checkFigure(t, "DivideFigures", none, impl.ErrInvalid)(impl.DivideFigures(a, b))
				if order, code := impl.CompareFigures(a, b); order != 0 || code != impl.ErrInvalid {
					t.Errorf("CompareFigures(%v, %v) = %d, %d", a, b, order, code)
				}
				if millionths, code := impl.RelativeError(a, b); millionths != 0 || code != impl.ErrInvalid {
					t.Errorf("RelativeError(%v, %v) = %d, %d", a, b, millionths, code)
				}
			}
		}
		for _, digits := range []int64{-1, 0, 1, 2, 3, 4, 5, math.MinInt64} {
			checkFigure(t, "RoundFigure", none, impl.ErrInvalid)(impl.RoundFigure(f, digits))
		}
		if s, code := impl.FigureText(f); s != "" || code != impl.ErrInvalid {
			t.Errorf("FigureText(%v) = %q, %d", f, s, code)
		}
	}
}

// Promise 1, for figures: they are recovered from their texts.

func TestFigureTexts(t *testing.T) {
	cases := map[string]impl.Figure{
		"6.667e-1": figure(6667, -1), "1.000e0": figure(1000, 0), "9.999e30": figure(9999, 30), "1.000e-30": figure(1000, -30),
		"1.001e1": figure(1001, 1), "2.010e10": figure(2010, 10), "5.100e-10": figure(5100, -10), "9.009e9": figure(9009, 9),
	}
	for want, f := range cases {
		if s, code := impl.FigureText(f); s != want || code != impl.ErrNone {
			t.Errorf("FigureText(%v) = %q, %d; want %q", f, s, code, want)
		}
		checkFigure(t, "ReadFigure", f, impl.ErrNone)(impl.ReadFigure(want))
	}
}

func TestFiguresAreRecoveredFromTheirTexts(t *testing.T) {
	for digits := int64(1000); digits <= 9999; digits++ {
		for tens := int64(-30); tens <= 30; tens++ {
			f := figure(digits, tens)
			s, code := impl.FigureText(f)
			if again, two := impl.ReadFigure(s); again != f || code != impl.ErrNone || two != impl.ErrNone {
				t.Fatalf("FigureText(%v) = %q, %d; ReadFigure = %v, %d", f, s, code, again, two)
			}
		}
	}
}

func TestReadFigureRejectsTextsOfNothing(t *testing.T) {
	texts := []string{
		"", "e", ".", "0", "1", "1.000", "1.000e", "1.000e-", "1.000e--1", "1.000e+1", "1.000e-0", "1.000e01", "1.000e00", "1.000e-01",
		"1.000e31", "1.000e-31", "9.999e31", "1.000e100", "1.000e-100", "1.000e9223372036854775808", "1.000e18446744073709551616",
		"0.999e0", "0.000e0", "0.100e1", "-1.000e0", "-.100e0", "+1.000e0", "+.100e0", " 1.000e0", "1.000e0 ", "1.000e 0", "1.000e0\n",
		"1,000e0", "1.000E0", "10.00e0", "10.000e0", "1.00e0", "1.00e00", "1.0000e0", "1.0e0", "1e0", "1000e0", "1000.e0", "1000", ".1000e0", "1.-00e0", "1.+00e0",
		"1.000e0e0", "1.000e0.0", "1.000e1_0", "1.000e0x1", "1.00ae0", "a.000e0", "1.000ea", "1.0 0e0", "1..00e0", "1.000ee0", "1.000e0\x00", "\x001.000e0",
		"1.000e\u0661", "\uff11.000e0", "\u0661.000e0", "1.\u0661\u0660\u0660e0", "1\u00b7000e0", "1.\xff00e0", "1.000e\u22121",
		"1.000e" + strings.Repeat("0", 1000), "1.000e" + strings.Repeat("9", 1000), strings.Repeat("1.000e0", 2),
	}
	for _, s := range texts {
		checkFigure(t, "ReadFigure "+strconv.Quote(s), none, impl.ErrSyntax)(impl.ReadFigure(s))
	}
}

func TestReadFigureAcceptsExactlyTheTextsOfFigures(t *testing.T) {
	grammar := regexp.MustCompile(`^[1-9]\.[0-9]{3}e(0|-?([1-9]|[12][0-9]|30))$`)
	bytes := "0139-+.e ,\n\xff"
	for _, base := range []string{"1.000e0", "9.999e30", "1.203e-30", "6.667e-1", "3.300e29"} {
		for i := 0; i <= len(base); i++ {
			for _, b := range []byte(bytes) {
				checkReadFigure(t, grammar, base[:i]+string([]byte{b})+base[i:])
				if i < len(base) {
					checkReadFigure(t, grammar, base[:i]+base[i+1:])
					checkReadFigure(t, grammar, base[:i]+string([]byte{b})+base[i+1:])
				}
				for j := i + 1; j < len(base); j++ {
					for _, c := range []byte(bytes) {
						checkReadFigure(t, grammar, base[:i]+string([]byte{b})+base[i+1:j]+string([]byte{c})+base[j+1:])
					}
				}
			}
		}
	}
}

// fraction is the exact value of a figure.
func fraction(f impl.Figure) *big.Rat {
	power := new(big.Int).Exp(big.NewInt(10), big.NewInt(max(f.Tens-3, 3-f.Tens)), nil)
	scale := new(big.Rat).SetInt(power)
	if f.Tens < 3 {
		scale.Inv(scale)
	}
	return scale.Mul(scale, big.NewRat(f.Digits, 1))
}

// checkRounded tells whether f is the nearest figure: the exact value is off by at most half of
// the unit of the digits before a carry to 1000, and of two nearest figures the greater one is
// taken.
func checkRounded(t *testing.T, name string, exact *big.Rat, f impl.Figure, code int64) {
	t.Helper()
	if code != impl.ErrNone || !impl.IsFigure(f) {
		t.Errorf("%s: %v, %d for %v", name, f, code, exact)
		return
	}
	value := fraction(f)
	half := new(big.Rat).Mul(fraction(figure(1000, f.Tens-3)), big.NewRat(1, 2))
	if exact.Cmp(fraction(figure(1000, f.Tens))) < 0 {
		half.Mul(half, big.NewRat(1, 10))
	}
	off := new(big.Rat).Sub(exact, value)
	if off.Cmp(half) >= 0 || off.Cmp(half.Neg(half)) < 0 {
		t.Errorf("%s: %v for %v", name, f, exact)
	}
}

// checkFigure takes the results of a function directly.
func checkFigure(t *testing.T, name string, want impl.Figure, wantCode int64) func(impl.Figure, int64) {
	t.Helper()
	return func(got impl.Figure, code int64) {
		t.Helper()
		if got != want || code != wantCode {
			t.Errorf("%s: %v, %d; want %v, %d", name, got, code, want, wantCode)
		}
	}
}

// checkRelativeError compares with the definition, in exact fractions.
func checkRelativeError(t *testing.T, a, b impl.Figure) {
	t.Helper()
	exact := new(big.Rat).Quo(fraction(a), fraction(b))
	exact.Sub(exact, big.NewRat(1, 1)).Abs(exact).Mul(exact, big.NewRat(1000000, 1))
	got, code := impl.RelativeError(a, b)
	if exact.Cmp(big.NewRat(9000000, 1)) > 0 {
		if got != 0 || code != impl.ErrLimit {
			t.Errorf("RelativeError(%v, %v) = %d, %d", a, b, got, code)
		}
		return
	}
	rest := new(big.Rat).Sub(big.NewRat(got, 1), exact)
	if code != impl.ErrNone || rest.Sign() < 0 || rest.Cmp(big.NewRat(1, 1)) >= 0 {
		t.Errorf("RelativeError(%v, %v) = %d, %d; exactly %v", a, b, got, code, exact)
	}
}

func checkReadFigure(t *testing.T, grammar *regexp.Regexp, s string) {
	t.Helper()
	f, code := impl.ReadFigure(s)
	if !grammar.MatchString(s) {
		if f != none || code != impl.ErrSyntax {
			t.Errorf("ReadFigure(%q) = %v, %d", s, f, code)
		}
		return
	}
	if text, two := impl.FigureText(f); text != s || code != impl.ErrNone || two != impl.ErrNone {
		t.Errorf("ReadFigure(%q) = %v, %d, the text of which is %q", s, f, code, text)
	}
}
