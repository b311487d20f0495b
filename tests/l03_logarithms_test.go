package tests

import (
	"math"
	"math/big"
	"slices"
	"testing"

	"loop.example/g00951/impl"
)

const decade = int64(impl.Decade)

func interval(low, high int64) impl.Interval { return impl.Interval{Low: low, High: high} }

var noLog = impl.Interval{}

// noIntervals are turned round, or just or far beyond a limit with one or both bounds.
var noIntervals = []impl.Interval{
	interval(1, 0), interval(0, -1), interval(-1, -2), interval(limit, -limit), interval(limit, limit-1),
	interval(limit+1, limit+1), interval(-limit-1, -limit-1), interval(0, limit+1), interval(-limit-1, 0),
	interval(-limit-1, limit+1), interval(limit, limit+1), interval(-limit-1, -limit), interval(limit+1, 0), interval(0, -limit-1),
	interval(math.MinInt64, math.MaxInt64), interval(math.MaxInt64, math.MinInt64), interval(math.MinInt64, math.MinInt64),
	interval(math.MaxInt64, math.MaxInt64), interval(0, math.MaxInt64), interval(math.MinInt64, 0),
}

// someIntervals are of all signs, and some touch the limits.
var someIntervals = []impl.Interval{
	interval(0, 0), interval(0, 1), interval(-1, 0), interval(-1, 1), interval(1, 2), interval(3, 5), interval(-5, -3), interval(-7, 4),
	interval(-7, -7), interval(11, 11), interval(1364228, 1364229), interval(-1048576, -1048574), interval(-31457280, 32505856),
	interval(83333333333, 83333333333), interval(-83333333334, -83333333333), interval(-83333333333, 83333333334),
	interval(limit, limit), interval(-limit, -limit), interval(-limit, limit), interval(limit-1, limit), interval(-limit, -limit+1), interval(0, limit), interval(-limit, 0),
}

func TestConstantsOfChapter3(t *testing.T) {
	if impl.Decade != 1048576 || impl.LogBits != 20 {
		t.Error("constants", impl.Decade, impl.LogBits)
	}
}

func TestIsInterval(t *testing.T) {
	for _, a := range someIntervals {
		if !impl.IsInterval(a) {
			t.Error(a, "is an interval")
		}
	}
	for _, a := range noIntervals {
		if impl.IsInterval(a) {
			t.Error(a, "is no interval")
		}
	}
}

// Promise 4: logarithms of figures are at most 3 wide, and greater figures have greater ones.

func TestLogarithmOfExamples(t *testing.T) {
	cases := []struct {
		x    int64
		want impl.Interval
	}{
		{100000000, interval(0, 1)},
		{100000001, interval(0, 1)},
		{100000219, interval(0, 2)},
		{100000220, interval(1, 2)},
		{100100000, interval(455, 456)},
		{123456789, interval(95960, 95961)},
		{200000000, interval(315652, 315653)},
		{300000000, interval(500297, 500298)},
		{314200000, interval(521358, 521359)},
		// The square of the first one is 1000000000 if it is rounded up.
		{316227766, interval(524287, 524289)},
		{316227767, interval(524288, 524289)},
		{500000000, interval(732923, 732924)},
		{999900000, interval(1048530, 1048531)},
		{999999998, interval(1048575, 1048576)},
		{999999999, interval(1048575, 1048576)},
	}
	for _, c := range cases {
		checkInterval(t, "LogarithmOf", c.want, impl.ErrNone)(impl.LogarithmOf(c.x))
	}
}

// TestEveryStepIsRounded has numbers for which another rounding of squares or of tenths, to the
// nearest integer or to the other side, changes the lower or the upper bits.
func TestEveryStepIsRounded(t *testing.T) {
	cases := []struct {
		x    int64
		want impl.Interval
	}{
		{663611219, interval(861838, 861840)},
		{103856280, interval(17230, 17232)},
		{322959189, interval(533879, 533881)},
		{409778180, interval(642303, 642305)},
		{241386689, interval(401303, 401305)},
		{911454339, interval(1006354, 1006356)},
		{684222653, interval(875767, 875769)},
		{519613136, interval(750444, 750446)},
		{249723828, interval(416766, 416768)},
		{116293024, interval(68737, 68739)},
		{788429468, interval(940323, 940325)},
		{572571419, interval(794641, 794643)},
		{430084216, interval(664328, 664330)},
		{319954930, interval(529623, 529625)},
	}
	for _, c := range cases {
		checkInterval(t, "LogarithmOf", c.want, impl.ErrNone)(impl.LogarithmOf(c.x))
	}
}

func TestLogarithmsFollowTheirDefinition(t *testing.T) {
	numbers := []int64{}
	for i := int64(0); i < 2000; i++ {
		numbers = append(numbers, 100000000+i, 999999999-i, 316227766+1000-i)
	}
	for x := int64(100000000); x < 1000000000; x += 49999 {
		numbers = append(numbers, x)
	}
	slices.Sort(numbers)
	last := noLog
	for _, x := range numbers {
		got, code := impl.LogarithmOf(x)
		if want := definedLog(x); got != want || code != impl.ErrNone {
			t.Errorf("LogarithmOf(%d) = %v, %d; want %v", x, got, code, want)
		}
		if got.Low < last.Low || got.High < last.High {
			t.Errorf("LogarithmOf(%d) = %v, after %v", x, got, last)
		}
		last = got
		checkContains(t, "LogarithmOf", got, exactLog(x, 100000000, 0))
	}
}

func TestLogarithmOfErrors(t *testing.T) {
	numbers := []int64{99999999, 1000000000, 1000000001, 99999, 1000, 1, 0, -1, -100000000, -100000001, -999999999, -1000000000, 10000000000, limit, -limit}
	for _, x := range append(numbers, noValues...) {
		checkInterval(t, "LogarithmOf", noLog, impl.ErrRange)(impl.LogarithmOf(x))
	}
}

func TestFigureLogExamples(t *testing.T) {
	cases := []struct {
		f    impl.Figure
		want impl.Interval
	}{
		{figure(1000, 0), interval(0, 1)},
		{figure(2000, 1), interval(1364228, 1364229)},
		{figure(1001, 0), interval(455, 456)},
		{figure(3142, 0), interval(521358, 521359)},
		{figure(9998, 0), interval(1048484, 1048485)},
		{figure(9999, 0), interval(1048530, 1048531)},
		{figure(1000, -1), interval(-1048576, -1048575)},
		{figure(9999, -1), interval(-46, -45)},
		{figure(5000, -2), interval(-1364229, -1364228)},
		{figure(1000, 30), interval(31457280, 31457281)},
		{figure(1000, -30), interval(-31457280, -31457279)},
		{figure(9999, 30), interval(32505810, 32505811)},
		{figure(9999, -30), interval(-30408750, -30408749)},
		// These are the only digits the logarithms of which are wider than 1.
		{figure(3493, 0), interval(569584, 569586)},
		{figure(6495, 0), interval(852050, 852052)},
		{figure(7265, -1), interval(-145506, -145504)},
		{figure(8252, 2), interval(3058233, 3058235)},
		{figure(8482, -30), interval(-30483680, -30483678)},
	}
	for _, c := range cases {
		checkInterval(t, "FigureLog", c.want, impl.ErrNone)(impl.FigureLog(c.f))
	}
}

func TestLogarithmsOfFiguresContainTheTrueOnes(t *testing.T) {
	for digits := int64(1000); digits <= 9999; digits++ {
		want := definedLog(digits * 100000)
		for _, tens := range []int64{-30, -1, 0, 1, 30} {
			a, code := impl.FigureLog(figure(digits, tens))
			if a.Low != want.Low+tens*decade || a.High != want.High+tens*decade || code != impl.ErrNone {
				t.Errorf("FigureLog(%v) = %v, %d", figure(digits, tens), a, code)
			}
			checkContains(t, "FigureLog", a, exactLog(digits, 1000, tens))
		}
	}
}

func TestGreaterFiguresHaveGreaterLogarithmsOfWidth3(t *testing.T) {
	last := interval(-limit, -limit)
	for tens := int64(-30); tens <= 30; tens++ {
		for digits := int64(1000); digits <= 9999; digits++ {
			f := figure(digits, tens)
			a, code := impl.FigureLog(f)
			if code != impl.ErrNone || !impl.IsInterval(a) || a.Low <= last.High {
				t.Fatalf("FigureLog(%v) = %v, %d, after %v", f, a, code, last)
			}
			if width, code := impl.LogWidth(a); width < 1 || width > 3 || width != a.High-a.Low || code != impl.ErrNone {
				t.Fatalf("LogWidth(%v) = %d, %d, for %v", a, width, code, f)
			}
			last = a
		}
	}
}

func TestFigureLogErrors(t *testing.T) {
	for _, f := range noFigures {
		checkInterval(t, "FigureLog", noLog, impl.ErrInvalid)(impl.FigureLog(f))
	}
}

func TestAddLogs(t *testing.T) {
	cases := []struct {
		a, b, want impl.Interval
		code       int64
	}{
		{interval(1, 2), interval(3, 5), interval(4, 7), impl.ErrNone},
		{interval(0, 0), interval(0, 0), interval(0, 0), impl.ErrNone},
		{interval(-1, 2), interval(-5, -3), interval(-6, -1), impl.ErrNone},
		{interval(-2, -1), interval(1, 2), interval(-1, 1), impl.ErrNone},
		{interval(limit-1, limit-1), interval(0, 1), interval(limit-1, limit), impl.ErrNone},
		{interval(limit-1, limit-1), interval(1, 1), interval(limit, limit), impl.ErrNone},
		{interval(limit-1, limit-1), interval(1, 2), noLog, impl.ErrLimit},
		{interval(limit-1, limit-1), interval(2, 2), noLog, impl.ErrLimit},
		{interval(0, limit), interval(-1, 1), noLog, impl.ErrLimit},
		{interval(0, limit), interval(-1, 0), interval(-1, limit), impl.ErrNone},
		{interval(-limit+1, 0), interval(-1, 0), interval(-limit, 0), impl.ErrNone},
		{interval(-limit+1, -limit+1), interval(-1, -1), interval(-limit, -limit), impl.ErrNone},
		{interval(-limit+1, 0), interval(-2, 0), noLog, impl.ErrLimit},
		{interval(-limit+1, -limit+1), interval(-2, -2), noLog, impl.ErrLimit},
		{interval(-limit, 0), interval(-1, 1), noLog, impl.ErrLimit},
		{interval(-limit, limit), interval(0, 0), interval(-limit, limit), impl.ErrNone},
		{interval(-limit, limit), interval(-1, 1), noLog, impl.ErrLimit},
		{interval(limit, limit), interval(-limit, -limit), interval(0, 0), impl.ErrNone},
		{interval(limit, limit), interval(limit, limit), noLog, impl.ErrLimit},
		{interval(-limit, -limit), interval(-limit, -limit), noLog, impl.ErrLimit},
	}
	for _, c := range cases {
		checkInterval(t, "AddLogs", c.want, c.code)(impl.AddLogs(c.a, c.b))
		checkInterval(t, "AddLogs", c.want, c.code)(impl.AddLogs(c.b, c.a))
	}
}

func TestSubtractLogs(t *testing.T) {
	cases := []struct {
		a, b, want impl.Interval
		code       int64
	}{
		{interval(1, 2), interval(3, 5), interval(-4, -1), impl.ErrNone},
		{interval(3, 5), interval(1, 2), interval(1, 4), impl.ErrNone},
		{interval(0, 0), interval(0, 0), interval(0, 0), impl.ErrNone},
		{interval(3, 5), interval(3, 5), interval(-2, 2), impl.ErrNone},
		{interval(-1, 2), interval(-5, -3), interval(2, 7), impl.ErrNone},
		{interval(-5, -3), interval(-1, 2), interval(-7, -2), impl.ErrNone},
		{interval(0, limit-1), interval(-1, 0), interval(0, limit), impl.ErrNone},
		{interval(0, limit-1), interval(-2, 0), noLog, impl.ErrLimit},
		{interval(limit, limit), interval(0, 0), interval(limit, limit), impl.ErrNone},
		{interval(limit, limit), interval(-1, -1), noLog, impl.ErrLimit},
		{interval(-limit+1, 0), interval(0, 1), interval(-limit, 0), impl.ErrNone},
		{interval(-limit+1, 0), interval(0, 2), noLog, impl.ErrLimit},
		{interval(-limit, -limit), interval(0, 0), interval(-limit, -limit), impl.ErrNone},
		{interval(-limit, -limit), interval(1, 1), noLog, impl.ErrLimit},
		{interval(0, 0), interval(-limit, limit), interval(-limit, limit), impl.ErrNone},
		{interval(-1, 0), interval(-limit, limit), noLog, impl.ErrLimit},
		{interval(0, 1), interval(-limit, limit), noLog, impl.ErrLimit},
		{interval(limit, limit), interval(limit, limit), interval(0, 0), impl.ErrNone},
		{interval(-limit, -limit), interval(-limit, -limit), interval(0, 0), impl.ErrNone},
		{interval(limit, limit), interval(-limit, -limit), noLog, impl.ErrLimit},
		{interval(-limit, -limit), interval(limit, limit), noLog, impl.ErrLimit},
	}
	for _, c := range cases {
		checkInterval(t, "SubtractLogs", c.want, c.code)(impl.SubtractLogs(c.a, c.b))
	}
}

// TestInvalidIntervalsComeFirst also has pairs and factors that would be errors of another kind.
func TestInvalidIntervalsComeFirst(t *testing.T) {
	for _, a := range noIntervals {
		for _, b := range append(someIntervals, a) {
			checkInterval(t, "AddLogs", noLog, impl.ErrInvalid)(impl.AddLogs(a, b))
			checkInterval(t, "AddLogs", noLog, impl.ErrInvalid)(impl.AddLogs(b, a))
			checkInterval(t, "SubtractLogs", noLog, impl.ErrInvalid)(impl.SubtractLogs(a, b))
			checkInterval(t, "SubtractLogs", noLog, impl.ErrInvalid)(impl.SubtractLogs(b, a))
		}
		for _, n := range []int64{-13, -12, -1, 0, 1, 12, 13, math.MinInt64, math.MaxInt64} {
			for _, d := range []int64{-1, 0, 1, 12, 13, math.MinInt64} {
				checkInterval(t, "ScaleLog", noLog, impl.ErrInvalid)(impl.ScaleLog(a, n, d))
			}
		}
		if width, code := impl.LogWidth(a); width != 0 || code != impl.ErrInvalid {
			t.Errorf("LogWidth(%v) = %d, %d", a, width, code)
		}
	}
}

func TestScaleLogExamples(t *testing.T) {
	cases := []struct {
		a, want impl.Interval
		n, d    int64
		code    int64
	}{
		{interval(3, 5), interval(-3, -1), -1, 2, impl.ErrNone},
		{interval(3, 5), interval(1, 3), 1, 2, impl.ErrNone},
		{interval(-5, -3), interval(-3, -1), 1, 2, impl.ErrNone},
		{interval(-5, -3), interval(1, 3), -1, 2, impl.ErrNone},
		{interval(-5, 3), interval(-3, 2), 1, 2, impl.ErrNone},
		{interval(-5, 3), interval(-2, 3), -1, 2, impl.ErrNone},
		{interval(-1, -1), interval(-1, 0), 1, 12, impl.ErrNone},
		{interval(1, 1), interval(-1, 0), -1, 12, impl.ErrNone},
		{interval(3, 5), interval(0, 0), 0, 1, impl.ErrNone},
		{interval(-limit, limit), interval(0, 0), 0, 12, impl.ErrNone},
		{interval(3, 5), interval(36, 60), 12, 1, impl.ErrNone},
		{interval(3, 5), interval(-60, -36), -12, 1, impl.ErrNone},
		{interval(-5, -3), interval(36, 60), -12, 1, impl.ErrNone},
		{interval(3, 5), interval(3, 5), 12, 12, impl.ErrNone},
		{interval(3, 5), interval(-5, -3), -12, 12, impl.ErrNone},
		{interval(-limit, limit), interval(-limit, limit), 12, 12, impl.ErrNone},
		{interval(-limit, limit), interval(-limit, limit), -12, 12, impl.ErrNone},
		{interval(-limit, limit), interval(-limit, limit), -1, 1, impl.ErrNone},
		{interval(limit, limit), interval(-limit, -limit), -12, 12, impl.ErrNone},
		{interval(limit, limit), interval(83333333333, 83333333334), 1, 12, impl.ErrNone},
		{interval(-limit, -limit), interval(-83333333334, -83333333333), 1, 12, impl.ErrNone},
		{interval(83333333333, 83333333333), interval(999999999996, 999999999996), 12, 1, impl.ErrNone},
		{interval(0, 83333333334), noLog, 12, 1, impl.ErrLimit},
		{interval(0, 83333333334), noLog, -12, 1, impl.ErrLimit},
		{interval(-83333333334, 0), noLog, 12, 1, impl.ErrLimit},
		{interval(-83333333334, 0), noLog, -12, 1, impl.ErrLimit},
		{interval(limit/2, limit/2), interval(limit, limit), 2, 1, impl.ErrNone},
		{interval(limit/2, limit/2+1), noLog, 2, 1, impl.ErrLimit},
		{interval(-limit/2, limit/2), interval(-limit, limit), -2, 1, impl.ErrNone},
		{interval(-limit/2-1, limit/2), noLog, -2, 1, impl.ErrLimit},
		// The rounding alone keeps the bound, 999999999999 3/11, or brings it out of range.
		{interval(0, 916666666666), interval(0, limit), 12, 11, impl.ErrNone},
		{interval(-916666666666, 0), interval(-limit, 0), 12, 11, impl.ErrNone},
		{interval(0, 916666666666), interval(-limit, 0), -12, 11, impl.ErrNone},
		{interval(916666666667, 916666666667), noLog, 12, 11, impl.ErrLimit},
		{interval(-916666666667, -916666666667), noLog, 12, 11, impl.ErrLimit},
		{interval(916666666667, 916666666667), noLog, -12, 11, impl.ErrLimit},
		{interval(-916666666667, -916666666667), noLog, -12, 11, impl.ErrLimit},
		{interval(limit, limit), noLog, 12, 1, impl.ErrLimit},
	}
	for _, c := range cases {
		checkInterval(t, "ScaleLog", c.want, c.code)(impl.ScaleLog(c.a, c.n, c.d))
	}
}

func TestScaledBoundsAreRoundedDownAndUp(t *testing.T) {
	for _, a := range someIntervals {
		for n := int64(-12); n <= 12; n++ {
			for d := int64(1); d <= 12; d++ {
				checkScaled(t, a, n, d)
			}
		}
	}
	for low := int64(-14); low <= 14; low++ {
		for high := low; high <= 14; high++ {
			for n := int64(-12); n <= 12; n++ {
				for d := int64(1); d <= 12; d++ {
					checkScaled(t, interval(low, high), n, d)
				}
			}
		}
	}
}

func TestScaleLogErrors(t *testing.T) {
	// The factors are checked before the result.
	for _, a := range []impl.Interval{interval(0, 0), interval(-5, -3), interval(-limit, limit), interval(limit, limit)} {
		for _, n := range []int64{-13, 13, -14, 24, -limit, limit, math.MinInt64, math.MaxInt64} {
			for _, d := range []int64{1, 2, 12, 0, 13, n} {
				checkInterval(t, "ScaleLog", noLog, impl.ErrRange)(impl.ScaleLog(a, n, d))
			}
		}
		for _, d := range []int64{0, 13, -1, -12, -13, limit, -limit, math.MinInt64, math.MaxInt64} {
			for _, n := range []int64{-12, -1, 0, 1, 12} {
				checkInterval(t, "ScaleLog", noLog, impl.ErrRange)(impl.ScaleLog(a, n, d))
			}
		}
	}
}

func TestMantissaOf(t *testing.T) {
	cases := []struct{ u, mantissa, decades int64 }{
		{0, 0, 0}, {1, 1, 0}, {-1, 1048575, -1}, {1048575, 1048575, 0}, {1048576, 0, 1}, {1048577, 1, 1},
		{-1048575, 1, -1}, {-1048576, 0, -1}, {-1048577, 1048575, -2}, {-2097152, 0, -2}, {-2097153, 1048575, -3},
		{31457280, 0, 30}, {31457279, 1048575, 29}, {-31457280, 0, -30}, {-31457281, 1048575, -31},
		{limit, 331776, 953674}, {-limit, 716800, -953675}, {limit - 1, 331775, 953674}, {-limit + 1, 716801, -953675},
	}
	for _, c := range cases {
		if m, n, code := impl.MantissaOf(c.u); m != c.mantissa || n != c.decades || code != impl.ErrNone {
			t.Errorf("MantissaOf(%d) = %d, %d, %d; want %d, %d", c.u, m, n, code, c.mantissa, c.decades)
		}
	}
	for u := -3 * decade; u <= 3*decade; u += 37 {
		if m, n, code := impl.MantissaOf(u); m < 0 || m >= decade || n*decade+m != u || code != impl.ErrNone {
			t.Errorf("MantissaOf(%d) = %d, %d, %d", u, m, n, code)
		}
	}
	for _, u := range noValues {
		if m, n, code := impl.MantissaOf(u); m != 0 || n != 0 || code != impl.ErrRange {
			t.Errorf("MantissaOf(%d) = %d, %d, %d", u, m, n, code)
		}
	}
}

func TestLogWidth(t *testing.T) {
	cases := []struct {
		a    impl.Interval
		want int64
	}{
		{interval(0, 0), 0}, {interval(0, 1), 1}, {interval(-1, 1), 2}, {interval(-5, -3), 2}, {interval(3, 5), 2},
		{interval(limit, limit), 0}, {interval(-limit, -limit), 0}, {interval(0, limit), limit}, {interval(-limit, limit), 2 * limit},
	}
	for _, c := range cases {
		if got, code := impl.LogWidth(c.a); got != c.want || code != impl.ErrNone {
			t.Errorf("LogWidth(%v) = %d, %d; want %d", c.a, got, code, c.want)
		}
	}
}

// The guarantee of chapter 3: logarithms of products lie in the sums of logarithms.

func TestLogarithmsOfProductsLieInTheSums(t *testing.T) {
	digits := append([]int64{3493, 6495, 7265, 8252, 8482}, someDigits...)
	for _, m := range digits {
		for _, n := range digits {
			a, one := impl.FigureLog(figure(m, 2))
			b, two := impl.FigureLog(figure(n, -7))
			sum, three := impl.AddLogs(a, b)
			difference, four := impl.SubtractLogs(a, b)
			square, five := impl.ScaleLog(a, 2, 1)
			inverse, six := impl.ScaleLog(b, -1, 1)
			if one != impl.ErrNone || two != impl.ErrNone || three != impl.ErrNone || four != impl.ErrNone || five != impl.ErrNone || six != impl.ErrNone {
				t.Fatal("codes", one, two, three, four, five, six)
			}
			checkContains(t, "AddLogs", sum, exactLog(m*n, 1000000, -5))
			checkContains(t, "SubtractLogs", difference, exactLog(m, n, 9))
			checkContains(t, "ScaleLog", square, exactLog(m*m, 1000000, 4))
			checkContains(t, "ScaleLog", inverse, exactLog(1000, n, 7))
		}
	}
}

// definedLog follows the definition of the document, step by step.
func definedLog(x int64) impl.Interval {
	lower, upper := x, x
	a := noLog
	for range 20 {
		a.Low, a.High = 2*a.Low, 2*a.High
		lower = lower * lower / 100000000
		if lower >= 1000000000 {
			lower /= 10
			a.Low++
		}
		upper = (upper*upper + 99999999) / 100000000
		if upper >= 1000000000 {
			upper = (upper + 9) / 10
			a.High++
		}
	}
	a.High++
	return a
}

// fineBits is the number of bits after those of a unit in exact logarithms.
const fineBits = 20

// exactLog is the logarithm of n / d and a power of ten, in parts of a unit, rounded down and up.
// It squares numbers of so many bits that their own rounding does not matter.
func exactLog(n, d, tens int64) impl.Interval {
	return exactLogOf(big.NewInt(n), big.NewInt(d), tens)
}

// exactLogOf also takes products that are too great for exactLog.
func exactLogOf(n, d *big.Int, tens int64) impl.Interval {
	const precision = 200
	one := new(big.Int).Lsh(big.NewInt(1), precision)
	ten := big.NewInt(10)
	tenOnes := new(big.Int).Mul(one, ten)
	x := new(big.Int).Mul(one, n)
	x.Quo(x, d)
	low := tens
	for x.Cmp(one) < 0 {
		x.Mul(x, ten)
		low--
	}
	for x.Cmp(tenOnes) >= 0 {
		x.Quo(x, ten)
		low++
	}
	for range 20 + fineBits {
		x.Mul(x, x).Rsh(x, precision)
		low *= 2
		if x.Cmp(tenOnes) >= 0 {
			x.Quo(x, ten)
			low++
		}
	}
	if x.Cmp(one) == 0 {
		return interval(low, low)
	}
	return interval(low, low+1)
}

// checkContains tells whether a contains a logarithm of exactLog.
func checkContains(t *testing.T, name string, a, exact impl.Interval) {
	t.Helper()
	if a.Low<<fineBits > exact.Low || a.High<<fineBits < exact.High {
		t.Errorf("%s: %v does not contain %v / %d", name, a, exact, 1<<fineBits)
	}
}

// checkScaled compares with the definition: the bounds are the nearest integers outside.
func checkScaled(t *testing.T, a impl.Interval, n, d int64) {
	t.Helper()
	low, high := min(n*a.Low, n*a.High), max(n*a.Low, n*a.High)
	got, code := impl.ScaleLog(a, n, d)
	if low < -limit*d || high > limit*d {
		checkInterval(t, "ScaleLog", noLog, impl.ErrLimit)(got, code)
		return
	}
	if code != impl.ErrNone || got.Low*d > low || (got.Low+1)*d <= low || got.High*d < high || (got.High-1)*d >= high {
		t.Errorf("ScaleLog(%v, %d, %d) = %v, %d", a, n, d, got, code)
	}
}

// checkInterval takes the results of a function directly.
func checkInterval(t *testing.T, name string, want impl.Interval, wantCode int64) func(impl.Interval, int64) {
	t.Helper()
	return func(got impl.Interval, code int64) {
		t.Helper()
		if got != want || code != wantCode {
			t.Errorf("%s: %v, %d; want %v, %d", name, got, code, want, wantCode)
		}
	}
}
