package tests

import (
	"math"
	"math/big"
	"testing"

	"loop.example/g00951/impl"
)

var (
	logScales = []int64{impl.ScaleC, impl.ScaleA, impl.ScaleK, impl.ScaleCI, impl.ScaleCF}

	// noLogScales are all that have no errors in units.
	noLogScales = append([]int64{impl.ScaleL}, noScales...)

	noErrors = impl.Errors{}
	eyeOf10  = impl.Errors{Eye: 10}
	greatest = ruleErrors(maxEye, maxEye, maxEye)

	// noSpreads are just beyond and far beyond both bounds of the units of a spread.
	noSpreads = append([]int64{-1, decade + 1, -2, decade + 2, -decade, 2 * decade, 1 << 40, limit, -limit}, noValues...)

	// noFactors are just beyond and far beyond both bounds of the factors of errors.
	noFactors = append([]int64{0, 1001, -1, 1002, -1000, -1001, 1 << 32, limit, -limit}, noValues...)
)

func ruleErrors(engraving, parallax, eye int64) impl.Errors {
	return impl.Errors{Engraving: engraving, Parallax: parallax, Eye: eye}
}

// someErrors have all combinations of some numbers.
func someErrors() []impl.Errors {
	var list []impl.Errors
	for _, engraving := range []int64{0, 1, 7, maxEye} {
		for _, parallax := range []int64{0, 1, 12, maxEye} {
			for _, eye := range []int64{0, 1, 10, 199, maxEye} {
				list = append(list, ruleErrors(engraving, parallax, eye))
			}
		}
	}
	return list
}

// wrongErrors have one number out of range, with others that are not, or all of them.
func wrongErrors() []impl.Errors {
	var list []impl.Errors
	for _, n := range noEyes {
		for _, other := range []int64{0, 1, maxEye} {
			list = append(list, ruleErrors(n, other, other), ruleErrors(other, n, other), ruleErrors(other, other, n))
		}
		list = append(list, ruleErrors(n, n, n), ruleErrors(n, -n, 0), ruleErrors(0, n, -n), ruleErrors(n, 0, -2*n))
	}
	return list
}

func TestAreErrors(t *testing.T) {
	for _, e := range someErrors() {
		if !impl.AreErrors(e) {
			t.Errorf("AreErrors(%v) is false", e)
		}
	}
	for n := int64(-3); n <= maxEye+3; n++ {
		want := n >= 0 && n <= maxEye
		for _, e := range []impl.Errors{ruleErrors(n, 0, 0), ruleErrors(0, n, 0), ruleErrors(0, 0, n), ruleErrors(n, n, n), ruleErrors(maxEye, n, 0), ruleErrors(0, maxEye, n)} {
			if impl.AreErrors(e) != want {
				t.Errorf("AreErrors(%v) is %v", e, !want)
			}
		}
	}
	for _, e := range wrongErrors() {
		if impl.AreErrors(e) {
			t.Errorf("AreErrors(%v) is true", e)
		}
	}
}

func TestTotalError(t *testing.T) {
	for _, c := range []struct {
		e    impl.Errors
		want int64
	}{
		{noErrors, 0}, {ruleErrors(1, 2, 3), 7}, {ruleErrors(1, 0, 0), 2}, {ruleErrors(0, 1, 0), 1}, {ruleErrors(0, 0, 1), 1},
		{ruleErrors(10, 20, 30), 70}, {ruleErrors(30, 20, 10), 90}, {ruleErrors(5, 5, 10), 25},
		{ruleErrors(maxEye, 0, 0), 400}, {ruleErrors(0, maxEye, 0), 200}, {ruleErrors(0, 0, maxEye), 200}, {greatest, 800},
	} {
		checkNumber(t, "TotalError", c.want, impl.ErrNone)(impl.TotalError(c.e))
	}
	for _, e := range someErrors() {
		checkNumber(t, "TotalError", e.Engraving+e.Engraving+e.Parallax+e.Eye, impl.ErrNone)(impl.TotalError(e))
	}
}

func TestErrorUnitsExamples(t *testing.T) {
	for _, c := range []struct {
		scale, length int64
		e             impl.Errors
		want          int64
	}{
		{impl.ScaleC, 25000, eyeOf10, 420},
		{impl.ScaleC, 25000, ruleErrors(0, 10, 0), 420},
		{impl.ScaleC, 25000, ruleErrors(10, 0, 0), 839},
		{impl.ScaleA, 25000, eyeOf10, 839}, // less than twice 420
		{impl.ScaleK, 25000, eyeOf10, 1259},
		{impl.ScaleCI, 25000, ruleErrors(1, 2, 3), 294},
		{impl.ScaleCF, 25000, ruleErrors(1, 2, 3), 294},
		{impl.ScaleC, 12500, ruleErrors(5, 5, 10), 2098},
		// Quotients without a rest, and the next ones.
		{impl.ScaleC, 65536, ruleErrors(0, 0, 1), 16},
		{impl.ScaleC, 65537, ruleErrors(0, 0, 1), 16},
		{impl.ScaleC, 65535, ruleErrors(0, 0, 1), 17},
		{impl.ScaleA, 65536, ruleErrors(1, 0, 1), 96},
		{impl.ScaleK, 3, ruleErrors(0, 0, 1), decade},
		{impl.ScaleK, 7, ruleErrors(0, 0, 1), 449390},
		{impl.ScaleC, 800, greatest, decade},
		{impl.ScaleC, 799, greatest, 1049889},
		// The least and the greatest ones.
		{impl.ScaleC, maxLength, ruleErrors(0, 0, 1), 11},
		{impl.ScaleC, 99999, ruleErrors(0, 0, 1), 11},
		{impl.ScaleC, 1, greatest, 838860800},
		{impl.ScaleK, 1, greatest, 2516582400},
		{impl.ScaleK, maxLength, greatest, 25166},
		{impl.ScaleC, 1, noErrors, 0},
		{impl.ScaleK, maxLength, noErrors, 0},
	} {
		checkNumber(t, "ErrorUnits of "+scaleNames[c.scale], c.want, impl.ErrNone)(impl.ErrorUnits(c.scale, c.length, c.e))
	}
}

func TestErrorUnitsFollowTheirDefinition(t *testing.T) {
	for _, scale := range logScales {
		for _, length := range append([]int64{12, 100, 800, 12500, 32768, 50000}, someLengths...) {
			for _, e := range someErrors() {
				checkNumber(t, "ErrorUnits of "+scaleNames[scale], definedErrorUnits(scale, length, e), impl.ErrNone)(impl.ErrorUnits(scale, length, e))
			}
		}
	}
}

// Promise 10: a longer rule has no greater errors.

func TestLongerRulesHaveNoGreaterErrorUnits(t *testing.T) {
	for _, scale := range logScales {
		for _, e := range []impl.Errors{noErrors, ruleErrors(0, 0, 1), ruleErrors(0, 1, 0), eyeOf10, ruleErrors(1, 2, 3), ruleErrors(199, 0, 3), greatest} {
			last := int64(math.MaxInt64)
			for length := int64(1); length <= maxLength; length++ {
				units, code := impl.ErrorUnits(scale, length, e)
				if code != impl.ErrNone || units > last {
					t.Fatalf("ErrorUnits(%d, %d, %v) = %d, %d after %d", scale, length, e, units, code, last)
				}
				last = units
			}
		}
	}
}

func TestLongerRulesHaveNoGreaterBounds(t *testing.T) {
	for _, scale := range logScales {
		for _, e := range []impl.Errors{noErrors, ruleErrors(0, 0, 1), eyeOf10, ruleErrors(20, 30, 40), greatest} {
			for _, f := range []impl.Figure{figure(1000, 0), figure(3493, 2), figure(9999, -1), figure(1003, -30), figure(9970, 29)} {
				lastBound, lastDigits, was := int64(math.MaxInt64), int64(0), false
				for length := int64(1); length <= maxLength; length += 1 + length/25 {
					bound, code := impl.ReadingBound(scale, length, e, f)
					if code == impl.ErrNone && bound > lastBound || code != impl.ErrNone && was {
						t.Errorf("ReadingBound(%d, %d, %v, %v) = %d, %d after %d", scale, length, e, f, bound, code, lastBound)
					}
					if code == impl.ErrNone {
						lastBound, was = bound, true
					}
					digits, code := impl.WorstDigits(scale, length, e)
					if code != impl.ErrNone || digits < lastDigits {
						t.Errorf("WorstDigits(%d, %d, %v) = %d, %d after %d", scale, length, e, digits, code, lastDigits)
					}
					lastDigits = digits
				}
			}
		}
	}
}

func TestSpreadFigureExamples(t *testing.T) {
	for _, c := range []struct {
		f         impl.Figure
		units     int64
		low, high impl.Figure
	}{
		{figure(2000, 0), 420, figure(1998, 0), figure(2002, 0)},
		{figure(2000, 0), 0, figure(1999, 0), figure(2001, 0)},
		{figure(2000, 0), 1, figure(1999, 0), figure(2001, 0)},
		{figure(1000, 0), 0, figure(9999, -1), figure(1001, 0)},
		{figure(1000, 0), 420, figure(9990, -1), figure(1001, 0)},
		{figure(9999, 0), 0, figure(9998, 0), figure(1000, 1)},
		{figure(9999, 0), 420, figure(9989, 0), figure(1001, 1)},
		{figure(3493, 0), 1, figure(3492, 0), figure(3494, 0)},
		{figure(3493, -7), 100, figure(3492, -7), figure(3494, -7)},
		{figure(5000, 12), 227, figure(4997, 12), figure(5003, 12)},
		{figure(2000, 0), decade / 2, figure(6324, -1), figure(6325, 0)},
		// The greatest units, and the ones before them.
		{figure(2000, 0), decade - 1, figure(2000, -1), figure(2000, 1)},
		{figure(2000, 0), decade, figure(1999, -1), figure(2001, 1)},
		{figure(1000, 0), decade, figure(9999, -2), figure(1001, 1)},
		// The greatest and the least logarithms.
		{figure(9999, 29), 45, figure(9998, 29), figure(1000, 30)},
		{figure(1000, 29), decade - 1, figure(1000, 28), figure(1000, 30)},
		{figure(1001, -30), 0, figure(1000, -30), figure(1002, -30)},
		{figure(1001, -30), 454, figure(1000, -30), figure(1003, -30)},
		{figure(1000, -29), decade - 1, figure(1000, -30), figure(1000, -28)},
		{figure(1001, -29), decade, figure(1000, -30), figure(1002, -28)},
	} {
		checkSpan(t, "SpreadFigure", c.low, c.high, impl.ErrNone)(impl.SpreadFigure(c.f, c.units))
	}
}

func TestSpreadFiguresThatHaveNoSpan(t *testing.T) {
	for _, c := range []struct {
		f     impl.Figure
		units int64
		code  int64
	}{
		{figure(9999, 29), 46, impl.ErrRange},
		{figure(1000, 29), decade, impl.ErrRange},
		{figure(1000, 30), 0, impl.ErrRange},
		{figure(9999, 30), 0, impl.ErrRange},
		{figure(1001, -30), 456, impl.ErrRange},
		{figure(1000, -30), 1, impl.ErrRange},
		{figure(1000, -30), decade, impl.ErrRange},
		// There is no figure below the least logarithm itself.
		{figure(1001, -30), 455, impl.ErrNotFound},
		{figure(1000, -30), 0, impl.ErrNotFound},
		{figure(1000, -29), decade, impl.ErrNotFound},
	} {
		checkSpan(t, "SpreadFigure", none, none, c.code)(impl.SpreadFigure(c.f, c.units))
	}
}

func TestSpreadFiguresFollowTheirDefinition(t *testing.T) {
	for _, digits := range append(wideDigits, someDigits...) {
		for _, tens := range []int64{-30, -29, -1, 0, 7, 28, 29, 30} {
			for _, units := range []int64{0, 1, 2, 44, 45, 46, 420, 455, 12345, decade / 2, decade - 1, decade} {
				checkSpread(t, figure(digits, tens), units)
			}
		}
	}
}

func TestUnitsOfSpreadsOutOfRange(t *testing.T) {
	for _, units := range noSpreads {
		for _, f := range []impl.Figure{figure(2000, 0), figure(1000, -30), figure(9999, 30), figure(9999, 29)} {
			checkSpan(t, "SpreadFigure", none, none, impl.ErrRange)(impl.SpreadFigure(f, units))
		}
		for _, f := range noFigures {
			checkSpan(t, "SpreadFigure", none, none, impl.ErrInvalid)(impl.SpreadFigure(f, units))
		}
	}
	for _, f := range noFigures {
		for _, units := range []int64{0, 1, decade} {
			checkSpan(t, "SpreadFigure", none, none, impl.ErrInvalid)(impl.SpreadFigure(f, units))
		}
	}
}

func TestReadingBoundExamples(t *testing.T) {
	for _, c := range []struct {
		scale, length int64
		e             impl.Errors
		f             impl.Figure
		want          int64
	}{
		{impl.ScaleC, 25000, eyeOf10, figure(2000, 0), 2003},
		{impl.ScaleC, 25000, noErrors, figure(2000, 0), 1001},
		{impl.ScaleC, 25000, noErrors, figure(1000, 0), 1101},
		{impl.ScaleC, 25000, noErrors, figure(9999, 0), 201},
		{impl.ScaleC, 25000, noErrors, figure(9999, 29), 201},
		{impl.ScaleA, 25000, eyeOf10, figure(2000, 0), 4009},
		{impl.ScaleK, 25000, eyeOf10, figure(2000, 0), 6019},
		{impl.ScaleCI, 25000, ruleErrors(1, 2, 3), figure(2000, 5), 2003},
		{impl.ScaleCF, 25000, ruleErrors(1, 2, 3), figure(9999, -7), 1802},
		{impl.ScaleC, 12500, ruleErrors(2, 5, 5), figure(3142, 0), 5746},
		{impl.ScaleA, 65536, ruleErrors(3, 0, 0), figure(7265, 4), 1102},
		{impl.ScaleCF, 1000, ruleErrors(1, 1, 1), figure(5000, 0), 18773},
		{impl.ScaleCI, 99999, greatest, figure(1000, 0), 37996},
		{impl.ScaleK, maxLength, greatest, figure(1000, 0), 117100},
		{impl.ScaleC, 801, ruleErrors(100, 100, 100), figure(2000, 0), 8973157},
		{impl.ScaleC, 25000, eyeOf10, figure(1001, -30), 2000},
		{impl.ScaleC, 10000, ruleErrors(0, 0, 4), figure(9989, 29), 2005},
		// The greatest bound.
		{impl.ScaleK, 4801, greatest, figure(1003, 0), 9000000},
		{impl.ScaleK, 4801, greatest, figure(1022, 0), 9000000},
	} {
		checkNumber(t, "ReadingBound of "+scaleNames[c.scale], c.want, impl.ErrNone)(impl.ReadingBound(c.scale, c.length, c.e, c.f))
	}
}

func TestReadingsWithoutBounds(t *testing.T) {
	for _, c := range []struct {
		scale, length int64
		e             impl.Errors
		f             impl.Figure
		code          int64
	}{
		// Just above the greatest bound, and far above it.
		{impl.ScaleK, 4801, greatest, figure(3164, 0), impl.ErrLimit},
		{impl.ScaleK, 4800, greatest, figure(1003, 0), impl.ErrLimit},
		{impl.ScaleC, 800, ruleErrors(100, 100, 100), figure(2000, 0), impl.ErrLimit},
		// The greatest units of a spread, and just beyond them.
		{impl.ScaleC, 800, greatest, figure(1001, -29), impl.ErrLimit},
		{impl.ScaleK, 2400, greatest, figure(2000, 0), impl.ErrLimit},
		{impl.ScaleK, 2399, greatest, figure(2000, 0), impl.ErrRange},
		{impl.ScaleC, 799, greatest, figure(2000, 0), impl.ErrRange},
		{impl.ScaleC, 799, greatest, figure(1000, -29), impl.ErrRange},
		{impl.ScaleC, 1, greatest, figure(2000, 0), impl.ErrRange},
		{impl.ScaleK, 1, ruleErrors(0, 0, 1), figure(2000, 0), impl.ErrRange},
		// Figures near the limits of all figures.
		{impl.ScaleC, 800, greatest, figure(1000, 29), impl.ErrRange},
		{impl.ScaleC, 800, greatest, figure(1000, -29), impl.ErrNotFound},
		{impl.ScaleC, 23045, eyeOf10, figure(1001, -30), impl.ErrRange},
		{impl.ScaleC, 23070, eyeOf10, figure(1001, -30), impl.ErrNotFound},
		{impl.ScaleC, 25000, noErrors, figure(1000, -30), impl.ErrNotFound},
		{impl.ScaleC, 25000, ruleErrors(0, 0, 1), figure(1000, -30), impl.ErrRange},
		{impl.ScaleC, 25000, eyeOf10, figure(9999, 29), impl.ErrRange},
		{impl.ScaleC, 25000, eyeOf10, figure(1000, 30), impl.ErrRange},
	} {
		checkNumber(t, "ReadingBound of "+scaleNames[c.scale], 0, c.code)(impl.ReadingBound(c.scale, c.length, c.e, c.f))
	}
}

func TestReadingBoundsFollowTheirDefinition(t *testing.T) {
	for _, scale := range logScales {
		for _, length := range []int64{1, 7, 800, 801, 2400, 4801, 25000, maxLength} {
			for _, e := range []impl.Errors{noErrors, ruleErrors(0, 0, 1), eyeOf10, ruleErrors(1, 2, 3), ruleErrors(50, 20, 7), ruleErrors(100, 100, 100), greatest} {
				for _, f := range []impl.Figure{figure(1000, 0), figure(1001, 2), figure(3164, -1), figure(8482, 0), figure(9999, 3), figure(1000, 29), figure(1001, -29), figure(1000, -30), figure(9999, 30)} {
					checkReadingBound(t, scale, length, e, f)
				}
			}
		}
	}
}

func TestWorstDigitsExamples(t *testing.T) {
	for _, c := range []struct {
		scale, length, eye int64
		want               int64
	}{
		{impl.ScaleC, 25000, 10, 2},
		{impl.ScaleC, 25000, 0, 4}, {impl.ScaleC, 1, 0, 4}, {impl.ScaleK, 1, 0, 4}, {impl.ScaleCI, 7, 0, 4}, {impl.ScaleCF, maxLength, 0, 4},
		{impl.ScaleC, maxLength, 1, 4}, {impl.ScaleA, maxLength, 1, 4}, {impl.ScaleK, maxLength, 1, 3}, {impl.ScaleC, maxLength, 2, 4}, {impl.ScaleC, maxLength, 3, 3},
		// The least lengths with so many digits, and those before them.
		{impl.ScaleC, 47663, 1, 4}, {impl.ScaleC, 47662, 1, 3},
		{impl.ScaleCI, 47663, 1, 4}, {impl.ScaleCI, 47662, 1, 3},
		{impl.ScaleCF, 47663, 1, 4}, {impl.ScaleCF, 47662, 1, 3},
		{impl.ScaleA, 95326, 1, 4}, {impl.ScaleA, 95325, 1, 3},
		{impl.ScaleC, 4620, 1, 3}, {impl.ScaleC, 4619, 1, 2},
		{impl.ScaleA, 9239, 1, 3}, {impl.ScaleA, 9238, 1, 2},
		{impl.ScaleK, 13858, 1, 3}, {impl.ScaleK, 13857, 1, 2},
		{impl.ScaleC, 4538, 10, 2}, {impl.ScaleC, 1361, 3, 1},
		{impl.ScaleA, 2723, 3, 2}, {impl.ScaleA, 2722, 3, 1},
		{impl.ScaleK, 4084, 3, 2}, {impl.ScaleK, 1361, 1, 1},
		{impl.ScaleC, 391, 10, 1}, {impl.ScaleC, 390, 10, 0},
		{impl.ScaleA, 782, 10, 1}, {impl.ScaleA, 781, 10, 0},
		// Twice the units are exactly as much as is allowed, and two more.
		{impl.ScaleK, 23460, maxEye, 1}, {impl.ScaleK, 23459, maxEye, 0},
		{impl.ScaleC, 1, 1, 0}, {impl.ScaleK, 1, maxEye, 0},
	} {
		name := "WorstDigits of " + scaleNames[c.scale]
		checkNumber(t, name, c.want, impl.ErrNone)(impl.WorstDigits(c.scale, c.length, impl.Errors{Eye: c.eye}))
		checkNumber(t, name, c.want, impl.ErrNone)(impl.WorstDigits(c.scale, c.length, impl.Errors{Parallax: c.eye}))
		if c.eye%2 == 0 {
			checkNumber(t, name, c.want, impl.ErrNone)(impl.WorstDigits(c.scale, c.length, impl.Errors{Engraving: c.eye / 2}))
		}
	}
	checkNumber(t, "WorstDigits", 0, impl.ErrNone)(impl.WorstDigits(impl.ScaleK, 1, greatest))
	checkNumber(t, "WorstDigits", 1, impl.ErrNone)(impl.WorstDigits(impl.ScaleK, maxLength, greatest))
}

func TestWorstDigitsFollowTheirDefinition(t *testing.T) {
	for _, scale := range logScales {
		for _, e := range someErrors() {
			for length := int64(1); length <= maxLength; length += 1 + length/30 {
				checkNumber(t, "WorstDigits of "+scaleNames[scale], definedWorst(definedErrorUnits(scale, length, e)), impl.ErrNone)(impl.WorstDigits(scale, length, e))
			}
		}
	}
}

func TestScaleErrorsExamples(t *testing.T) {
	for _, c := range []struct {
		e    impl.Errors
		n, d int64
		want impl.Errors
	}{
		{ruleErrors(1, 2, 3), 1, 2, ruleErrors(1, 1, 2)},
		{ruleErrors(1, 2, 3), 1, 1, ruleErrors(1, 2, 3)},
		{ruleErrors(1, 2, 3), 1000, 1000, ruleErrors(1, 2, 3)},
		{ruleErrors(1, 2, 3), 1000, 999, ruleErrors(2, 3, 4)},
		{ruleErrors(1, 2, 3), 999, 1000, ruleErrors(1, 2, 3)},
		{ruleErrors(1, 2, 3), 2, 3, ruleErrors(1, 2, 2)},
		{ruleErrors(10, 20, 30), 3, 7, ruleErrors(5, 9, 13)},
		{ruleErrors(0, 1, 200), 1, 1000, ruleErrors(0, 1, 1)},
		{ruleErrors(0, 199, 200), 1, 200, ruleErrors(0, 1, 1)},
		{ruleErrors(199, 200, 0), 1, 199, ruleErrors(1, 2, 0)},
		{noErrors, 1000, 1, noErrors},
		{noErrors, 1, 1000, noErrors},
		{greatest, 1, 1000, ruleErrors(1, 1, 1)},
		{greatest, 7, 7, greatest},
		// Numbers that become as great as possible, two of them by rounding up.
		{ruleErrors(100, 100, 100), 2, 1, greatest},
		{ruleErrors(1, 1, 1), 200, 1, greatest},
		{ruleErrors(199, 0, 0), 1000, 995, ruleErrors(200, 0, 0)},
		{ruleErrors(0, 1, 0), 999, 5, ruleErrors(0, 200, 0)},
	} {
		checkErrors(t, c.want, impl.ErrNone)(impl.ScaleErrors(c.e, c.n, c.d))
	}
}

func TestErrorsThatBecomeTooGreat(t *testing.T) {
	for _, c := range []struct {
		number, n, d int64
	}{
		{101, 2, 1}, {1, 201, 1}, {1, 1000, 1}, {maxEye, 1000, 1}, {maxEye, 1000, 999}, {199, 1000, 994}, {maxEye, 2, 1}, {1, 1000, 4}, {2, 201, 2}, {1, 603, 3}, {3, 1000, 14}, {67, 3, 1},
	} {
		checkErrors(t, noErrors, impl.ErrLimit)(impl.ScaleErrors(ruleErrors(c.number, 0, 0), c.n, c.d))
		checkErrors(t, noErrors, impl.ErrLimit)(impl.ScaleErrors(ruleErrors(1, c.number, 0), c.n, c.d))
		checkErrors(t, noErrors, impl.ErrLimit)(impl.ScaleErrors(ruleErrors(0, 1, c.number), c.n, c.d))
		checkErrors(t, noErrors, impl.ErrLimit)(impl.ScaleErrors(ruleErrors(c.number, c.number, c.number), c.n, c.d))
		// Factors out of range come before that.
		for _, factor := range noFactors {
			checkErrors(t, noErrors, impl.ErrRange)(impl.ScaleErrors(ruleErrors(0, 1, c.number), c.n, factor))
			if factor > 0 {
				checkErrors(t, noErrors, impl.ErrRange)(impl.ScaleErrors(ruleErrors(c.number, 1, 0), factor, c.d))
			}
		}
	}
}

func TestScaledErrorsFollowTheirDefinition(t *testing.T) {
	factors := []int64{1, 2, 3, 7, 10, 199, 200, 201, 500, 998, 999, 1000}
	for _, e := range someErrors() {
		for _, n := range factors {
			for _, d := range factors {
				checkScaledErrors(t, e, n, d)
			}
		}
	}
	for number := range maxEye + 1 {
		for d := int64(1); d <= 1000; d += 37 {
			checkScaledErrors(t, ruleErrors(number, number/2, maxEye-number), 37, d)
		}
	}
}

func TestFactorsOfErrorsOutOfRange(t *testing.T) {
	for _, factor := range noFactors {
		for _, e := range []impl.Errors{noErrors, ruleErrors(1, 2, 3), greatest} {
			for _, other := range []int64{1, 500, 1000, 0, 1001, factor} {
				checkErrors(t, noErrors, impl.ErrRange)(impl.ScaleErrors(e, factor, other))
				checkErrors(t, noErrors, impl.ErrRange)(impl.ScaleErrors(e, other, factor))
			}
		}
	}
}

func TestLengthForExamples(t *testing.T) {
	for _, c := range []struct {
		scale int64
		e     impl.Errors
		units int64
		want  int64
	}{
		{impl.ScaleC, eyeOf10, 420, 24967}, {impl.ScaleC, eyeOf10, 419, 25026}, {impl.ScaleC, eyeOf10, 421, 24907},
		{impl.ScaleA, eyeOf10, 420, 49933}, {impl.ScaleK, eyeOf10, 420, 74899},
		{impl.ScaleCI, ruleErrors(1, 2, 3), 100, 73401}, {impl.ScaleCF, ruleErrors(1, 2, 3), 100, 73401},
		{impl.ScaleC, ruleErrors(0, 0, 1), 16, 65536}, {impl.ScaleK, ruleErrors(0, 0, 1), 32, 98304},
		{impl.ScaleC, ruleErrors(0, 0, 1), 11, 95326}, {impl.ScaleC, greatest, 8389, 99996},
		{impl.ScaleC, noErrors, 1, 1}, {impl.ScaleK, noErrors, decade, 1},
		{impl.ScaleC, ruleErrors(0, 0, 1), decade, 1}, {impl.ScaleC, ruleErrors(0, 0, 1), decade - 1, 2},
		{impl.ScaleC, greatest, decade, 800}, {impl.ScaleK, greatest, decade, 2400},
		// Exactly the greatest length.
		{impl.ScaleC, ruleErrors(6, 0, 200), 2223, maxLength}, {impl.ScaleA, ruleErrors(3, 0, 100), 2223, maxLength},
		{impl.ScaleK, ruleErrors(0, 90, 4), 2957, maxLength}, {impl.ScaleK, greatest, 25166, maxLength},
	} {
		checkNumber(t, "LengthFor of "+scaleNames[c.scale], c.want, impl.ErrNone)(impl.LengthFor(c.scale, c.e, c.units))
	}
}

func TestUnitsForWhichNoLengthIsEnough(t *testing.T) {
	for _, c := range []struct {
		scale int64
		e     impl.Errors
		units int64
	}{
		{impl.ScaleC, ruleErrors(0, 0, 1), 1}, {impl.ScaleC, ruleErrors(0, 0, 1), 10}, {impl.ScaleK, ruleErrors(0, 0, 1), 31},
		{impl.ScaleC, greatest, 8388}, {impl.ScaleK, greatest, 1}, {impl.ScaleK, greatest, 25165},
		// A length of 100001 would be enough.
		{impl.ScaleC, ruleErrors(0, 0, 35), 367}, {impl.ScaleA, ruleErrors(10, 5, 10), 734}, {impl.ScaleK, ruleErrors(0, 35, 0), 1101},
	} {
		checkNumber(t, "LengthFor of "+scaleNames[c.scale], 0, impl.ErrNotFound)(impl.LengthFor(c.scale, c.e, c.units))
	}
}

func TestLengthsFollowTheirDefinition(t *testing.T) {
	for _, scale := range logScales {
		for _, e := range someErrors() {
			for units := int64(1); units <= decade; units += 1 + units/9 {
				checkLengthFor(t, scale, e, units)
			}
			for _, units := range []int64{decade / 2, decade - 1, decade} {
				checkLengthFor(t, scale, e, units)
			}
		}
	}
}

func TestUnitsOfLengthsOutOfRange(t *testing.T) {
	for _, units := range append([]int64{0}, noSpreads...) {
		for _, scale := range logScales {
			for _, e := range []impl.Errors{noErrors, eyeOf10, greatest} {
				checkNumber(t, "LengthFor", 0, impl.ErrRange)(impl.LengthFor(scale, e, units))
			}
		}
	}
}

func TestErrorsOnScalesAndLengthsOutOfRange(t *testing.T) {
	for _, e := range []impl.Errors{noErrors, eyeOf10, greatest} {
		for _, scale := range noLogScales {
			for _, length := range []int64{1, 25000, maxLength, 0, maxLength + 1} {
				checkErrorCodes(t, scale, length, e, figure(2000, 0), impl.ErrRange)
			}
			for _, units := range []int64{1, 420, decade, 0} {
				checkNumber(t, "LengthFor", 0, impl.ErrRange)(impl.LengthFor(scale, e, units))
			}
		}
		for _, scale := range logScales {
			for _, length := range noLengths {
				checkErrorCodes(t, scale, length, e, figure(2000, 0), impl.ErrRange)
				checkErrorCodes(t, scale, length, e, figure(1000, -30), impl.ErrRange)
			}
		}
	}
}

func TestInvalidErrorsComeFirst(t *testing.T) {
	for _, e := range wrongErrors() {
		checkNumber(t, "TotalError", 0, impl.ErrInvalid)(impl.TotalError(e))
		for _, scale := range []int64{impl.ScaleC, impl.ScaleK, impl.ScaleL, -1, 6, math.MinInt64} {
			for _, length := range []int64{1, 25000, maxLength, 0, maxLength + 1} {
				checkErrorCodes(t, scale, length, e, figure(2000, 0), impl.ErrInvalid)
			}
			for _, units := range []int64{1, decade, 0, decade + 1} {
				checkNumber(t, "LengthFor", 0, impl.ErrInvalid)(impl.LengthFor(scale, e, units))
			}
		}
		for _, n := range []int64{1, 1000, 0, 1001} {
			for _, d := range []int64{1, 1000, 0, 1001} {
				checkErrors(t, noErrors, impl.ErrInvalid)(impl.ScaleErrors(e, n, d))
			}
		}
	}
}

func TestInvalidFiguresOfBoundsComeFirst(t *testing.T) {
	for _, f := range noFigures {
		for _, e := range []impl.Errors{noErrors, greatest, ruleErrors(-1, 0, 0), ruleErrors(0, 0, maxEye+1)} {
			for _, scale := range []int64{impl.ScaleC, impl.ScaleL, -1, 6} {
				for _, length := range []int64{1, 25000, 0, maxLength + 1} {
					checkNumber(t, "ReadingBound", 0, impl.ErrInvalid)(impl.ReadingBound(scale, length, e, f))
				}
			}
		}
	}
}

// definedErrorUnits expects arguments in their ranges. No quotient is so near to a whole number that
// its fraction is lost.
func definedErrorUnits(scale, length int64, e impl.Errors) int64 {
	total := 2*e.Engraving + e.Parallax + e.Eye
	return int64(math.Ceil(float64(total*decade*allDecades[scale]) / float64(length)))
}

func definedWorst(units int64) int64 {
	for i, pair := range [][2]int64{{9998, 9999}, {9980, 9990}, {9800, 9900}, {8000, 9000}} {
		if 2*units <= definedFigureLog(figure(pair[1], 0)).Low-definedFigureLog(figure(pair[0], 0)).High {
			return int64(4 - i)
		}
	}
	return 0
}

// definedBound expects arguments in their ranges.
func definedBound(units int64, f impl.Figure) (int64, int64) {
	if units > decade {
		return 0, impl.ErrRange
	}
	log := definedFigureLog(f)
	low, high, code := definedSpan(interval(log.Low-units, log.High+units))
	if code != impl.ErrNone {
		return 0, code
	}
	off := new(big.Rat).Quo(fraction(high), fraction(low))
	off.Sub(off, big.NewRat(1, 1)).Mul(off, big.NewRat(1000000, 1))
	millionths := new(big.Int).Add(off.Num(), off.Denom())
	millionths.Sub(millionths, big.NewInt(1)).Quo(millionths, off.Denom())
	if millionths.Cmp(big.NewInt(9000000)) > 0 {
		return 0, impl.ErrLimit
	}
	return millionths.Int64(), impl.ErrNone
}

// checkSpread compares with the definition. The figure itself and all that is off by no more than the
// units lies in the span.
func checkSpread(t *testing.T, f impl.Figure, units int64) {
	t.Helper()
	log := definedFigureLog(f)
	wantLow, wantHigh, wantCode := definedSpan(interval(log.Low-units, log.High+units))
	low, high, code := impl.SpreadFigure(f, units)
	checkSpan(t, "SpreadFigure", wantLow, wantHigh, wantCode)(low, high, code)
	if code != impl.ErrNone {
		return
	}
	off := math.Pow(10, float64(units)/float64(decade))
	down, _ := new(big.Rat).Quo(fraction(f), fraction(low)).Float64()
	up, _ := new(big.Rat).Quo(fraction(high), fraction(f)).Float64()
	if down < off || up < off {
		t.Errorf("SpreadFigure(%v, %d) = %v, %v, which is too narrow", f, units, low, high)
	}
}

// checkReadingBound compares with the definition. No figure of the span is farther from the figure
// than the bound tells.
func checkReadingBound(t *testing.T, scale, length int64, e impl.Errors, f impl.Figure) {
	t.Helper()
	units := definedErrorUnits(scale, length, e)
	want, wantCode := definedBound(units, f)
	bound, code := impl.ReadingBound(scale, length, e, f)
	checkNumber(t, "ReadingBound of "+scaleNames[scale], want, wantCode)(bound, code)
	if code != impl.ErrNone {
		return
	}
	low, high, code := impl.SpreadFigure(f, units)
	below, one := impl.RelativeError(low, f)
	above, two := impl.RelativeError(high, f)
	if code != impl.ErrNone || one != impl.ErrNone || two != impl.ErrNone || below > bound || above > bound {
		t.Errorf("ReadingBound(%d, %d, %v, %v) = %d, but %v is off by %d and %v by %d", scale, length, e, f, bound, low, below, high, above)
	}
}

// checkScaledErrors tells whether each number is the least one that is not less than the fraction.
func checkScaledErrors(t *testing.T, e impl.Errors, n, d int64) {
	t.Helper()
	got, code := impl.ScaleErrors(e, n, d)
	if e.Engraving*n > maxEye*d || e.Parallax*n > maxEye*d || e.Eye*n > maxEye*d {
		checkErrors(t, noErrors, impl.ErrLimit)(got, code)
		return
	}
	before, after := []int64{e.Engraving, e.Parallax, e.Eye}, []int64{got.Engraving, got.Parallax, got.Eye}
	for i := range before {
		if after[i]*d < before[i]*n || (after[i]-1)*d >= before[i]*n || code != impl.ErrNone {
			t.Errorf("ScaleErrors(%v, %d, %d) = %v, %d", e, n, d, got, code)
		}
	}
}

// checkLengthFor tells whether a length is enough, and the one before it is not.
func checkLengthFor(t *testing.T, scale int64, e impl.Errors, units int64) {
	t.Helper()
	length, code := impl.LengthFor(scale, e, units)
	if definedErrorUnits(scale, maxLength, e) > units {
		checkNumber(t, "LengthFor of "+scaleNames[scale], 0, impl.ErrNotFound)(length, code)
		return
	}
	if code != impl.ErrNone || length < 1 || length > maxLength || definedErrorUnits(scale, length, e) > units || length > 1 && definedErrorUnits(scale, length-1, e) <= units {
		t.Errorf("LengthFor(%d, %v, %d) = %d, %d", scale, e, units, length, code)
	}
}

// checkErrorCodes expects an error that all functions of a scale and a length find.
func checkErrorCodes(t *testing.T, scale, length int64, e impl.Errors, f impl.Figure, want int64) {
	t.Helper()
	checkNumber(t, "ErrorUnits", 0, want)(impl.ErrorUnits(scale, length, e))
	checkNumber(t, "WorstDigits", 0, want)(impl.WorstDigits(scale, length, e))
	checkNumber(t, "ReadingBound", 0, want)(impl.ReadingBound(scale, length, e, f))
}

// checkErrors takes the results of ScaleErrors directly.
func checkErrors(t *testing.T, want impl.Errors, wantCode int64) func(impl.Errors, int64) {
	t.Helper()
	return func(got impl.Errors, code int64) {
		t.Helper()
		if got != want || code != wantCode {
			t.Errorf("ScaleErrors: %v, %d; want %v, %d", got, code, want, wantCode)
		}
	}
}
