package tests

import (
	"math"
	"math/big"
	"sync"
	"testing"

	"loop.example/g00951/impl"
)

const maxUnits = int64(impl.MaxTens) * decade

// noUnits are just beyond and far beyond both bounds of a number of units.
var noUnits = append([]int64{
	maxUnits + 1, maxUnits + 2, maxUnits + decade, 2 * maxUnits, limit,
	-maxUnits - 1, -maxUnits - 2, -maxUnits - decade, -2 * maxUnits, -limit,
}, noValues...)

// wideDigits have the only logarithms of figures that are wider than 1.
var wideDigits = []int64{3493, 6495, 7265, 8252, 8482}

func TestFigureBelowExamples(t *testing.T) {
	cases := []struct {
		u    int64
		want impl.Figure
	}{
		{315652, figure(1999, 0)}, {315653, figure(2000, 0)}, {315654, figure(2000, 0)},
		{0, figure(9999, -1)}, {1, figure(1000, 0)}, {-1, figure(9999, -1)}, {455, figure(1000, 0)}, {456, figure(1001, 0)},
		{-44, figure(9999, -1)}, {-45, figure(9999, -1)}, {-46, figure(9998, -1)},
		// The logarithm of 3.493 is from 569584 to 569586.
		{569585, figure(3492, 0)}, {569586, figure(3493, 0)}, {569587, figure(3493, 0)},
		{decade, figure(9999, 0)}, {decade + 1, figure(1000, 1)}, {decade - 45, figure(9999, 0)}, {decade - 46, figure(9998, 0)},
		{-decade, figure(9999, -2)}, {-decade + 1, figure(1000, -1)},
		{maxUnits, figure(9999, 29)}, {maxUnits - 1, figure(9999, 29)}, {maxUnits - 45, figure(9999, 29)}, {maxUnits - 46, figure(9998, 29)},
		{-maxUnits + 1, figure(1000, -30)}, {-maxUnits + 2, figure(1000, -30)}, {-maxUnits + 455, figure(1000, -30)}, {-maxUnits + 456, figure(1001, -30)},
	}
	for _, c := range cases {
		checkFigure(t, "FigureBelow", c.want, impl.ErrNone)(impl.FigureBelow(c.u))
	}
	// No figure is less than the least one, whose High is greater than the least u.
	checkFigure(t, "FigureBelow", none, impl.ErrNotFound)(impl.FigureBelow(-maxUnits))
}

func TestFigureAboveExamples(t *testing.T) {
	cases := []struct {
		u    int64
		want impl.Figure
	}{
		{315651, figure(2000, 0)}, {315652, figure(2000, 0)}, {315653, figure(2001, 0)},
		{0, figure(1000, 0)}, {1, figure(1001, 0)}, {-1, figure(1000, 0)}, {455, figure(1001, 0)}, {456, figure(1002, 0)},
		{-45, figure(1000, 0)}, {-46, figure(9999, -1)}, {-47, figure(9999, -1)},
		{569583, figure(3493, 0)}, {569584, figure(3493, 0)}, {569585, figure(3494, 0)}, {569586, figure(3494, 0)},
		{decade - 46, figure(9999, 0)}, {decade - 45, figure(1000, 1)}, {decade - 1, figure(1000, 1)}, {decade, figure(1000, 1)}, {decade + 1, figure(1001, 1)},
		{-decade, figure(1000, -1)}, {-decade + 1, figure(1001, -1)},
		{maxUnits, figure(1000, 30)}, {maxUnits - 1, figure(1000, 30)}, {maxUnits - 45, figure(1000, 30)}, {maxUnits - 46, figure(9999, 29)},
		{-maxUnits, figure(1000, -30)}, {-maxUnits + 1, figure(1001, -30)}, {-maxUnits + 455, figure(1001, -30)}, {-maxUnits + 456, figure(1002, -30)},
	}
	for _, c := range cases {
		checkFigure(t, "FigureAbove", c.want, impl.ErrNone)(impl.FigureAbove(c.u))
	}
}

func TestFiguresBelowAndAboveTheBoundsOfTheirLogarithms(t *testing.T) {
	for _, tens := range []int64{-30, -1, 29} {
		for digits := int64(1000); digits <= 9999; digits++ {
			a := definedFigureLog(figure(digits, tens))
			for _, u := range []int64{a.Low - 1, a.Low, a.Low + 1, a.High - 1, a.High, a.High + 1} {
				checkNeighbours(t, u)
			}
			checkFigure(t, "FigureBelow", figure(digits, tens), impl.ErrNone)(impl.FigureBelow(a.High))
			checkFigure(t, "FigureAbove", figure(digits, tens), impl.ErrNone)(impl.FigureAbove(a.Low))
		}
	}
	for u := -maxUnits; u <= maxUnits; u += 1999 {
		checkNeighbours(t, u)
	}
	for tens := int64(-30); tens <= 30; tens++ {
		for off := int64(-500); off <= 500; off += 5 {
			checkNeighbours(t, tens*decade+off)
		}
	}
}

func TestUnitsOutOfRange(t *testing.T) {
	for _, u := range noUnits {
		checkFigure(t, "FigureBelow", none, impl.ErrRange)(impl.FigureBelow(u))
		checkFigure(t, "FigureAbove", none, impl.ErrRange)(impl.FigureAbove(u))
	}
}

func TestSpanOfExamples(t *testing.T) {
	cases := []struct {
		a         impl.Interval
		low, high impl.Figure
	}{
		{interval(315652, 315653), figure(1999, 0), figure(2001, 0)},
		{interval(315653, 315653), figure(2000, 0), figure(2001, 0)},
		{interval(315652, 315652), figure(1999, 0), figure(2000, 0)},
		{interval(315653, 315652+decade), figure(2000, 0), figure(2000, 1)},
		{interval(0, 0), figure(9999, -1), figure(1000, 0)},
		{interval(-1, 1), figure(9999, -1), figure(1001, 0)},
		{interval(1, 455), figure(1000, 0), figure(1001, 0)},
		{interval(-46, -46), figure(9998, -1), figure(9999, -1)},
		{interval(maxUnits, maxUnits), figure(9999, 29), figure(1000, 30)},
		{interval(-maxUnits+1, -maxUnits+1), figure(1000, -30), figure(1001, -30)},
		{interval(-maxUnits+1, maxUnits), figure(1000, -30), figure(1000, 30)},
	}
	for _, c := range cases {
		checkSpan(t, "SpanOf", c.low, c.high, impl.ErrNone)(impl.SpanOf(c.a))
	}
}

func TestSpansHoldTheirIntervals(t *testing.T) {
	for low := -maxUnits; low <= maxUnits; low += 100003 {
		for _, width := range []int64{0, 1, 2, 44, 45, 46, 454, 455, 456, 1000, decade, 10 * decade, maxUnits} {
			a := interval(low, low+width)
			low, high, code := definedSpan(a)
			checkSpan(t, "SpanOf", low, high, code)(impl.SpanOf(a))
		}
	}
}

func TestSpanOfErrors(t *testing.T) {
	for _, a := range noIntervals {
		checkSpan(t, "SpanOf", none, none, impl.ErrInvalid)(impl.SpanOf(a))
	}
	// Bounds that are turned round are invalid also where a bound is out of range or there is no figure.
	for _, a := range []impl.Interval{interval(maxUnits+1, maxUnits), interval(-maxUnits, -maxUnits-1), interval(maxUnits, -maxUnits), interval(limit, -limit)} {
		checkSpan(t, "SpanOf", none, none, impl.ErrInvalid)(impl.SpanOf(a))
	}
	// The range of both bounds is checked before the figure below the first one is looked for.
	for _, a := range []impl.Interval{
		interval(maxUnits, maxUnits+1), interval(maxUnits+1, maxUnits+1), interval(0, maxUnits+1), interval(-maxUnits+1, maxUnits+1),
		interval(-maxUnits-1, -maxUnits-1), interval(-maxUnits-1, -maxUnits), interval(-maxUnits-1, 0), interval(-maxUnits-1, maxUnits),
		interval(-maxUnits, maxUnits+1), interval(-maxUnits-1, maxUnits+1), interval(-maxUnits, limit),
		interval(-limit, limit), interval(limit, limit), interval(-limit, -limit), interval(0, limit), interval(-limit, 0),
	} {
		checkSpan(t, "SpanOf", none, none, impl.ErrRange)(impl.SpanOf(a))
	}
	for _, a := range []impl.Interval{interval(-maxUnits, -maxUnits), interval(-maxUnits, 0), interval(-maxUnits, -maxUnits+1), interval(-maxUnits, maxUnits)} {
		checkSpan(t, "SpanOf", none, none, impl.ErrNotFound)(impl.SpanOf(a))
	}
}

// Promise 5: exact products and quotients lie in their spans.

func TestExactProductsAndQuotientsLieInTheirSpans(t *testing.T) {
	digits := append(wideDigits, someDigits...)
	for _, m := range digits {
		for _, n := range digits {
			for _, tens := range [][2]int64{{0, 0}, {-1, 1}, {7, -3}, {14, 14}, {-15, -15}, {30, -30}} {
				a, b := figure(m, tens[0]), figure(n, tens[1])
				low, high, code := impl.ProductSpan(a, b)
				checkNarrow(t, "ProductSpan", new(big.Rat).Mul(fraction(a), fraction(b)), low, high, code, sumOfLogs(a, b))
				c := figure(n, -tens[1])
				low, high, code = impl.QuotientSpan(a, c)
				checkNarrow(t, "QuotientSpan", new(big.Rat).Quo(fraction(a), fraction(c)), low, high, code, differenceOfLogs(a, c))
			}
		}
	}
}

func TestProductsAndQuotientsOfAllDigits(t *testing.T) {
	for m := int64(1000); m <= 9999; m++ {
		a, b := figure(m, 3), figure(10999-m, -5)
		low, high, code := impl.ProductSpan(a, b)
		checkNarrow(t, "ProductSpan", new(big.Rat).Mul(fraction(a), fraction(b)), low, high, code, sumOfLogs(a, b))
		low, high, code = impl.QuotientSpan(a, b)
		checkNarrow(t, "QuotientSpan", new(big.Rat).Quo(fraction(a), fraction(b)), low, high, code, differenceOfLogs(a, b))
	}
}

func TestProductSpanExamples(t *testing.T) {
	cases := []struct {
		a, b, low, high impl.Figure
		code            int64
	}{
		{figure(2000, 0), figure(3000, 0), figure(5999, 0), figure(6001, 0), impl.ErrNone},
		{figure(1000, 0), figure(1000, 0), figure(9999, -1), figure(1001, 0), impl.ErrNone},
		{figure(5000, 0), figure(2000, 0), figure(9999, 0), figure(1001, 1), impl.ErrNone},
		{figure(9999, 0), figure(9999, 0), figure(9997, 1), figure(9999, 1), impl.ErrNone},
		{figure(3493, 0), figure(6495, 0), figure(2268, 1), figure(2269, 1), impl.ErrNone},
		{figure(1000, 30), figure(1000, -30), figure(9999, -1), figure(1001, 0), impl.ErrNone},
		{figure(9999, 30), figure(9999, -30), figure(9997, 1), figure(9999, 1), impl.ErrNone},
		// The greatest sums: the second one has exactly the greatest High.
		{figure(9999, 14), figure(1000, 15), figure(9998, 29), figure(1000, 30), impl.ErrNone},
		{figure(1110, 14), figure(9009, 15), figure(9999, 29), figure(1000, 30), impl.ErrNone},
		{figure(1000, 15), figure(1000, 15), none, none, impl.ErrRange},
		{figure(1000, 30), figure(1000, 0), none, none, impl.ErrRange},
		{figure(9999, 29), figure(1001, 0), none, none, impl.ErrRange},
		{figure(9999, 30), figure(9999, 30), none, none, impl.ErrRange},
		// The least sums: two have exactly the least Low, below which there is no figure.
		{figure(1000, -30), figure(1001, 0), figure(1000, -30), figure(1002, -30), impl.ErrNone},
		{figure(1000, -30), figure(1000, 0), none, none, impl.ErrNotFound},
		{figure(1010, -15), figure(9901, -16), none, none, impl.ErrNotFound},
		{figure(1000, -15), figure(9999, -16), none, none, impl.ErrRange},
		{figure(9999, -30), figure(1000, -1), none, none, impl.ErrRange},
		{figure(1000, -30), figure(1000, -30), none, none, impl.ErrRange},
	}
	for _, c := range cases {
		checkSpan(t, "ProductSpan", c.low, c.high, c.code)(impl.ProductSpan(c.a, c.b))
		checkSpan(t, "ProductSpan", c.low, c.high, c.code)(impl.ProductSpan(c.b, c.a))
	}
}

func TestQuotientSpanExamples(t *testing.T) {
	cases := []struct {
		a, b, low, high impl.Figure
		code            int64
	}{
		{figure(2000, 0), figure(3000, 0), figure(6666, -1), figure(6667, -1), impl.ErrNone},
		{figure(5000, 0), figure(2000, 0), figure(2499, 0), figure(2501, 0), impl.ErrNone},
		{figure(3493, 0), figure(6495, 0), figure(5377, -1), figure(5379, -1), impl.ErrNone},
		{figure(1000, 0), figure(1000, 0), figure(9999, -1), figure(1001, 0), impl.ErrNone},
		{figure(1000, -30), figure(1000, -30), figure(9999, -1), figure(1001, 0), impl.ErrNone},
		{figure(9999, 30), figure(9999, 30), figure(9999, -1), figure(1001, 0), impl.ErrNone},
		{figure(9999, 29), figure(1000, 0), figure(9998, 29), figure(1000, 30), impl.ErrNone},
		{figure(1000, 30), figure(1001, 0), figure(9989, 29), figure(9991, 29), impl.ErrNone},
		{figure(1000, 30), figure(1000, 0), none, none, impl.ErrRange},
		{figure(1001, 30), figure(1001, 0), none, none, impl.ErrRange},
		{figure(1000, 30), figure(9999, -1), none, none, impl.ErrRange},
		{figure(9999, 30), figure(1000, -30), none, none, impl.ErrRange},
		{figure(1001, -30), figure(1000, 0), figure(1000, -30), figure(1002, -30), impl.ErrNone},
		{figure(1000, -30), figure(1000, 0), none, none, impl.ErrRange},
		{figure(1000, 0), figure(1000, 30), none, none, impl.ErrRange},
		{figure(1000, -30), figure(9999, 30), none, none, impl.ErrRange},
	}
	for _, c := range cases {
		checkSpan(t, "QuotientSpan", c.low, c.high, c.code)(impl.QuotientSpan(c.a, c.b))
	}
}

func TestProductsAndQuotientsAtTheLimits(t *testing.T) {
	digits := append([]int64{1010, 9901, 1110, 9009, 3493, 6495, 2337, 4279}, someDigits...)
	for _, m := range digits {
		for _, n := range digits {
			for _, tens := range [][2]int64{{15, 14}, {15, 15}, {-15, -15}, {-15, -16}, {30, 0}, {-30, 0}, {30, -1}, {-30, -1}, {30, 30}, {-30, -30}} {
				a, b := figure(m, tens[0]), figure(n, tens[1])
				low, high, code := definedSpan(sumOfLogs(a, b))
				checkSpan(t, "ProductSpan", low, high, code)(impl.ProductSpan(a, b))
				c := figure(n, -tens[1])
				low, high, code = definedSpan(differenceOfLogs(a, c))
				checkSpan(t, "QuotientSpan", low, high, code)(impl.QuotientSpan(a, c))
			}
		}
	}
}

func TestPowerSpanExamples(t *testing.T) {
	cases := []struct {
		a         impl.Figure
		n, d      int64
		low, high impl.Figure
	}{
		{figure(4000, 0), 1, 2, figure(1999, 0), figure(2001, 0)},
		{figure(2000, 0), 0, 1, figure(9999, -1), figure(1000, 0)},
		{figure(2000, 30), 0, 12, figure(9999, -1), figure(1000, 0)},
		{figure(2000, 0), -1, 1, figure(4999, -1), figure(5001, -1)},
		{figure(2000, 0), -12, 12, figure(4999, -1), figure(5001, -1)},
		{figure(2000, 0), 12, 12, figure(1999, 0), figure(2001, 0)},
		{figure(2000, 0), 12, 1, figure(4095, 3), figure(4097, 3)},
		{figure(2000, 0), 1, 12, figure(1059, 0), figure(1060, 0)},
		{figure(2000, 0), -1, 12, figure(9438, -1), figure(9439, -1)},
		{figure(3493, 0), 1, 2, figure(1868, 0), figure(1869, 0)},
		{figure(3493, -1), 1, 2, figure(5910, -1), figure(5911, -1)},
		{figure(3493, -1), -1, 2, figure(1691, 0), figure(1693, 0)},
		{figure(3493, 1), 1, 3, figure(3268, 0), figure(3269, 0)},
		{figure(9999, 30), 1, 2, figure(3162, 15), figure(3163, 15)},
		{figure(9999, 30), 11, 12, figure(2609, 28), figure(2610, 28)},
		{figure(9999, -30), 11, 12, figure(2609, -27), figure(2610, -27)},
		// The greatest High and nearly the least Low.
		{figure(9999, 29), 1, 1, figure(9998, 29), figure(1000, 30)},
		{figure(1000, -30), -1, 1, figure(9999, 29), figure(1000, 30)},
		{figure(1000, -20), -3, 2, figure(9999, 29), figure(1000, 30)},
		{figure(1001, -15), 2, 1, figure(1002, -30), figure(1003, -30)},
	}
	for _, c := range cases {
		checkSpan(t, "PowerSpan", c.low, c.high, impl.ErrNone)(impl.PowerSpan(c.a, c.n, c.d))
	}
}

func TestExactPowersLieInTheirSpans(t *testing.T) {
	figures := []impl.Figure{figure(1000, 0), figure(9999, -1), figure(1001, 0), figure(1000, 30), figure(1000, -30), figure(9999, 30), figure(9999, -30), figure(3142, 0), figure(2000, -2), figure(5000, 15), figure(5000, -15)}
	for _, digits := range wideDigits {
		figures = append(figures, figure(digits, 0), figure(digits, -3), figure(digits, 2))
	}
	for _, a := range figures {
		for n := int64(-12); n <= 12; n++ {
			for d := int64(1); d <= 12; d++ {
				checkPower(t, a, n, d)
			}
		}
	}
}

func TestPowerSpanErrors(t *testing.T) {
	outOfRange := []struct {
		a    impl.Figure
		n, d int64
	}{
		{figure(1000, 30), 1, 1}, {figure(1000, 30), -1, 1}, {figure(1000, 15), 2, 1}, {figure(1000, 20), 3, 2}, {figure(1000, 20), -3, 2},
		{figure(9999, 30), 12, 1}, {figure(9999, 30), -12, 1}, {figure(1000, -30), 12, 1}, {figure(1000, -30), -2, 1}, {figure(9999, -30), -12, 11},
		{figure(2000, 0), 13, 1}, {figure(2000, 0), -13, 1}, {figure(2000, 0), 1, 0}, {figure(2000, 0), 1, 13}, {figure(2000, 0), 1, -1}, {figure(2000, 0), 13, 13},
		{figure(2000, 0), 0, 0}, {figure(2000, 0), 0, 13}, {figure(2000, 0), math.MinInt64, 1}, {figure(2000, 0), math.MaxInt64, 1},
		{figure(2000, 0), 1, math.MinInt64}, {figure(2000, 0), 1, math.MaxInt64}, {figure(2000, 0), math.MinInt64, math.MinInt64},
		// These would also be without a figure below.
		{figure(1000, -30), 13, 13}, {figure(1000, -30), 1, 0}, {figure(1000, -30), 1, 13},
	}
	for _, c := range outOfRange {
		checkSpan(t, "PowerSpan", none, none, impl.ErrRange)(impl.PowerSpan(c.a, c.n, c.d))
	}
	for _, c := range [][4]int64{{1000, -30, 1, 1}, {1000, -30, 12, 12}, {1000, -15, 2, 1}, {1000, -20, 3, 2}, {1000, -10, 3, 1}, {1000, -3, 10, 1}} {
		checkSpan(t, "PowerSpan", none, none, impl.ErrNotFound)(impl.PowerSpan(figure(c[0], c[1]), c[2], c[3]))
	}
}

func TestSpansOfInvalidFigures(t *testing.T) {
	for _, f := range noFigures {
		// Some of the others would be out of range, or without a figure below, with a valid one.
		for _, g := range []impl.Figure{figure(1000, 0), figure(9999, 30), figure(1000, 30), figure(1000, -30), f} {
			for _, pair := range [][2]impl.Figure{{f, g}, {g, f}} {
				a, b := pair[0], pair[1]
				checkSpan(t, "ProductSpan", none, none, impl.ErrInvalid)(impl.ProductSpan(a, b))
				checkSpan(t, "QuotientSpan", none, none, impl.ErrInvalid)(impl.QuotientSpan(a, b))
				checkFigure(t, "MiddleFigure", none, impl.ErrInvalid)(impl.MiddleFigure(a, b))
				checkMillionths(t, 0, impl.ErrInvalid)(impl.SpanError(a, b))
			}
		}
		for _, n := range []int64{-13, -12, 0, 1, 12, 13, math.MinInt64, math.MaxInt64} {
			for _, d := range []int64{-1, 0, 1, 12, 13, math.MinInt64} {
				checkSpan(t, "PowerSpan", none, none, impl.ErrInvalid)(impl.PowerSpan(f, n, d))
			}
		}
	}
}

func TestSpanErrorExamples(t *testing.T) {
	cases := []struct {
		low, high  impl.Figure
		millionths int64
		code       int64
	}{
		{figure(1000, 0), figure(1010, 0), 10000, impl.ErrNone},
		{figure(1000, 0), figure(1001, 0), 1000, impl.ErrNone},
		{figure(1000, 0), figure(1000, 0), 0, impl.ErrNone},
		{figure(9999, 30), figure(9999, 30), 0, impl.ErrNone},
		{figure(1000, -30), figure(1000, -30), 0, impl.ErrNone},
		{figure(9999, -1), figure(1000, 0), 101, impl.ErrNone},
		{figure(9999, 29), figure(1000, 30), 101, impl.ErrNone},
		{figure(9998, 0), figure(9999, 0), 101, impl.ErrNone},
		{figure(1999, 0), figure(2001, 0), 1001, impl.ErrNone},
		{figure(1000, 0), figure(9999, 0), 8999000, impl.ErrNone},
		{figure(9999, 0), figure(9998, 1), 8999000, impl.ErrNone},
		{figure(1000, 0), figure(1000, 1), 9000000, impl.ErrNone},
		{figure(9999, -30), figure(9999, -29), 9000000, impl.ErrNone},
		{figure(1000, 0), figure(1001, 1), 0, impl.ErrLimit},
		{figure(9998, 0), figure(9999, 1), 0, impl.ErrLimit},
		{figure(1000, 0), figure(1000, 2), 0, impl.ErrLimit},
		{figure(9999, -2), figure(1000, 7), 0, impl.ErrLimit},
		{figure(1000, -30), figure(9999, 30), 0, impl.ErrLimit},
	}
	for _, c := range cases {
		checkMillionths(t, c.millionths, c.code)(impl.SpanError(c.low, c.high))
	}
}

func TestSpanErrorsAreRelativeErrors(t *testing.T) {
	for _, m := range someDigits {
		for _, n := range someDigits {
			for _, tens := range []int64{0, 1, 2, 30} {
				low, high := figure(m, -tens), figure(n, 0)
				if fraction(high).Cmp(fraction(low)) < 0 {
					checkMillionths(t, 0, impl.ErrState)(impl.SpanError(low, high))
					continue
				}
				exact := new(big.Rat).Quo(fraction(high), fraction(low))
				exact.Sub(exact, big.NewRat(1, 1)).Mul(exact, big.NewRat(1000000, 1))
				if exact.Cmp(big.NewRat(9000000, 1)) > 0 {
					checkMillionths(t, 0, impl.ErrLimit)(impl.SpanError(low, high))
					continue
				}
				got, code := impl.SpanError(low, high)
				rest := new(big.Rat).Sub(big.NewRat(got, 1), exact)
				if code != impl.ErrNone || rest.Sign() < 0 || rest.Cmp(big.NewRat(1, 1)) >= 0 {
					t.Errorf("SpanError(%v, %v) = %d, %d; exactly %v", low, high, got, code, exact)
				}
			}
		}
	}
}

// TestSpansThatAreTurnedRound also has figures for which the middle is out of range.
func TestSpansThatAreTurnedRound(t *testing.T) {
	for _, pair := range [][2]impl.Figure{
		{figure(1001, 0), figure(1000, 0)}, {figure(9999, 0), figure(9998, 0)}, {figure(1000, 0), figure(9999, -1)}, {figure(9999, 0), figure(1000, 0)},
		{figure(1000, 1), figure(1000, 0)}, {figure(1000, -29), figure(9999, -30)}, {figure(9999, 30), figure(1000, -30)},
		{figure(1001, 30), figure(1000, 30)}, {figure(9999, 30), figure(9998, 30)}, {figure(9999, 30), figure(1000, 30)}, {figure(1001, -30), figure(1000, -30)},
	} {
		checkMillionths(t, 0, impl.ErrState)(impl.SpanError(pair[0], pair[1]))
		checkFigure(t, "MiddleFigure", none, impl.ErrState)(impl.MiddleFigure(pair[0], pair[1]))
	}
}

func TestMiddleFigureExamples(t *testing.T) {
	cases := []struct {
		low, high, want impl.Figure
		code            int64
	}{
		{figure(1000, 0), figure(1000, 0), figure(1000, 0), impl.ErrNone},
		{figure(1001, -1), figure(1001, -1), figure(1001, -1), impl.ErrNone},
		{figure(1000, 0), figure(1000, 1), figure(3163, 0), impl.ErrNone},
		{figure(1000, -1), figure(1000, 0), figure(3163, -1), impl.ErrNone},
		{figure(1000, 0), figure(1000, 2), figure(1000, 1), impl.ErrNone},
		{figure(1052, -1), figure(2361, -1), figure(1576, -1), impl.ErrNone},
		{figure(2000, 0), figure(3000, 0), figure(2450, 0), impl.ErrNone},
		{figure(2000, -1), figure(3000, -1), figure(2450, -1), impl.ErrNone},
		{figure(1999, 0), figure(2001, 0), figure(2001, 0), impl.ErrNone},
		// The half of a logarithm of width 2 is greater than its Low.
		{figure(3493, 0), figure(3493, 0), figure(3494, 0), impl.ErrNone},
		{figure(8482, -3), figure(8482, -3), figure(8483, -3), impl.ErrNone},
		{figure(1000, -30), figure(1000, 30), figure(1000, 0), impl.ErrNone},
		{figure(1000, -30), figure(1000, -30), figure(1000, -30), impl.ErrNone},
		{figure(1000, 28), figure(9999, 30), figure(3163, 29), impl.ErrNone},
		// Halves that are at the greatest u, half a unit over it before they are rounded, or beyond it.
		{figure(9990, 29), figure(1001, 30), figure(1000, 30), impl.ErrNone},
		{figure(1000, 30), figure(1000, 30), figure(1000, 30), impl.ErrNone},
		{figure(9901, 29), figure(1010, 30), figure(1000, 30), impl.ErrNone},
		{figure(9980, 29), figure(1002, 30), figure(1000, 30), impl.ErrNone},
		{figure(9999, 28), figure(9999, 30), figure(9999, 29), impl.ErrNone},
		{figure(9990, 29), figure(1002, 30), none, impl.ErrRange},
		{figure(1000, 30), figure(1001, 30), none, impl.ErrRange},
		{figure(9998, 29), figure(1001, 30), none, impl.ErrRange},
		{figure(9999, 30), figure(9999, 30), none, impl.ErrRange},
	}
	for _, c := range cases {
		checkFigure(t, "MiddleFigure", c.want, c.code)(impl.MiddleFigure(c.low, c.high))
	}
}

func TestMiddleFiguresFollowTheirDefinition(t *testing.T) {
	digits := append(wideDigits, someDigits...)
	for _, m := range digits {
		for _, n := range digits {
			for _, tens := range [][2]int64{{0, 0}, {-1, 0}, {-1, -1}, {-30, -30}, {-30, 30}, {29, 30}, {30, 30}} {
				low, high := figure(m, tens[0]), figure(n, tens[1])
				if fraction(high).Cmp(fraction(low)) < 0 {
					checkFigure(t, "MiddleFigure", none, impl.ErrState)(impl.MiddleFigure(low, high))
					continue
				}
				sum := definedFigureLog(low).Low + definedFigureLog(high).High
				half := int64(math.Floor(float64(sum) / 2))
				want, code := none, int64(impl.ErrRange)
				if half <= maxUnits {
					want, code = definedAbove(half)
				}
				checkFigure(t, "MiddleFigure", want, code)(impl.MiddleFigure(low, high))
			}
		}
	}
}

// logsOfDecade are the logarithms of 1.000 to 9.999 by their definition.
var logsOfDecade = sync.OnceValue(func() []impl.Interval {
	logs := make([]impl.Interval, 9000)
	for i := range logs {
		logs[i] = definedLog(int64(1000+i) * 100000)
	}
	return logs
})

func definedFigureLog(f impl.Figure) impl.Interval {
	a := logsOfDecade()[f.Digits-1000]
	return interval(a.Low+f.Tens*decade, a.High+f.Tens*decade)
}

func sumOfLogs(a, b impl.Figure) impl.Interval {
	x, y := definedFigureLog(a), definedFigureLog(b)
	return interval(x.Low+y.Low, x.High+y.High)
}

func differenceOfLogs(a, b impl.Figure) impl.Interval {
	x, y := definedFigureLog(a), definedFigureLog(b)
	return interval(x.Low-y.High, x.High-y.Low)
}

// definedBelow tries all figures, from the greatest one on.
func definedBelow(u int64) (impl.Figure, int64) {
	logs := logsOfDecade()
	for tens := int64(30); tens >= -30; tens-- {
		if logs[0].High+tens*decade > u {
			continue
		}
		for digits := int64(9999); digits >= 1000; digits-- {
			if logs[digits-1000].High+tens*decade <= u {
				return figure(digits, tens), impl.ErrNone
			}
		}
	}
	return none, impl.ErrNotFound
}

// definedAbove tries all figures, from the least one on.
func definedAbove(u int64) (impl.Figure, int64) {
	logs := logsOfDecade()
	for tens := int64(-30); tens <= 30; tens++ {
		if logs[8999].Low+tens*decade < u {
			continue
		}
		for digits := int64(1000); digits <= 9999; digits++ {
			if logs[digits-1000].Low+tens*decade >= u {
				return figure(digits, tens), impl.ErrNone
			}
		}
	}
	return none, impl.ErrNotFound
}

// definedSpan expects a valid interval.
func definedSpan(a impl.Interval) (impl.Figure, impl.Figure, int64) {
	if a.Low < -maxUnits || a.High > maxUnits {
		return none, none, impl.ErrRange
	}
	low, one := definedBelow(a.Low)
	high, two := definedAbove(a.High)
	if one != impl.ErrNone || two != impl.ErrNone {
		return none, none, impl.ErrNotFound
	}
	return low, high, impl.ErrNone
}

// checkNeighbours compares the figures below and above u with those that their definition has.
func checkNeighbours(t *testing.T, u int64) {
	t.Helper()
	below, one := none, int64(impl.ErrRange)
	above, two := none, int64(impl.ErrRange)
	if -maxUnits <= u && u <= maxUnits {
		below, one = definedBelow(u)
		above, two = definedAbove(u)
	}
	checkFigure(t, "FigureBelow", below, one)(impl.FigureBelow(u))
	checkFigure(t, "FigureAbove", above, two)(impl.FigureAbove(u))
}

// checkSpan takes the results of a function directly.
func checkSpan(t *testing.T, name string, wantLow, wantHigh impl.Figure, wantCode int64) func(impl.Figure, impl.Figure, int64) {
	t.Helper()
	return func(low, high impl.Figure, code int64) {
		t.Helper()
		if low != wantLow || high != wantHigh || code != wantCode {
			t.Errorf("%s: %v, %v, %d; want %v, %v, %d", name, low, high, code, wantLow, wantHigh, wantCode)
		}
	}
}

func checkMillionths(t *testing.T, want, wantCode int64) func(int64, int64) {
	t.Helper()
	return func(got, code int64) {
		t.Helper()
		if got != want || code != wantCode {
			t.Errorf("SpanError: %d, %d; want %d, %d", got, code, want, wantCode)
		}
	}
}

// checkNarrow tells whether a span is that of the logarithm, holds the exact number, and is at
// most two units of the last digit wide.
func checkNarrow(t *testing.T, name string, exact *big.Rat, low, high impl.Figure, code int64, log impl.Interval) {
	t.Helper()
	wantLow, wantHigh, wantCode := definedSpan(log)
	checkSpan(t, name, wantLow, wantHigh, wantCode)(low, high, code)
	if code != impl.ErrNone {
		return
	}
	if fraction(low).Cmp(exact) > 0 || fraction(high).Cmp(exact) < 0 {
		t.Errorf("%s: %v is not in the span from %v to %v", name, exact, low, high)
	}
	if high != nextFigure(low) && high != nextFigure(nextFigure(low)) {
		t.Errorf("%s: the span from %v to %v is wide", name, low, high)
	}
	if millionths, code := impl.SpanError(low, high); millionths > 2000 || code != impl.ErrNone {
		t.Errorf("SpanError(%v, %v) = %d, %d", low, high, millionths, code)
	}
}

func nextFigure(f impl.Figure) impl.Figure {
	if f.Digits == 9999 {
		return figure(1000, f.Tens+1)
	}
	return figure(f.Digits+1, f.Tens)
}

// checkPower compares with the definition, and the bounds, raised to d, with the exact power.
func checkPower(t *testing.T, a impl.Figure, n, d int64) {
	t.Helper()
	log := definedFigureLog(a)
	least, greatest := min(n*log.Low, n*log.High), max(n*log.Low, n*log.High)
	down := int64(math.Floor(float64(least) / float64(d)))
	up := int64(math.Ceil(float64(greatest) / float64(d)))
	wantLow, wantHigh, wantCode := definedSpan(interval(down, up))
	low, high, code := impl.PowerSpan(a, n, d)
	checkSpan(t, "PowerSpan", wantLow, wantHigh, wantCode)(low, high, code)
	if code != impl.ErrNone {
		return
	}
	exact := raised(fraction(a), n)
	if raised(fraction(low), d).Cmp(exact) > 0 || raised(fraction(high), d).Cmp(exact) < 0 {
		t.Errorf("PowerSpan(%v, %d, %d) = %v, %v", a, n, d, low, high)
	}
}

func raised(x *big.Rat, n int64) *big.Rat {
	power := big.NewRat(1, 1)
	for range max(n, -n) {
		power.Mul(power, x)
	}
	if n < 0 {
		power.Inv(power)
	}
	return power
}
