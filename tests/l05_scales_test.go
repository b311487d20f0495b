package tests

import (
	"math"
	"slices"
	"strconv"
	"testing"

	"loop.example/g00951/impl"
)

const maxLength = int64(impl.MaxLength)

var (
	allScales  = []int64{impl.ScaleC, impl.ScaleA, impl.ScaleK, impl.ScaleCI, impl.ScaleCF, impl.ScaleL}
	scaleNames = []string{"C", "A", "K", "CI", "CF", "L"}
	allDecades = []int64{1, 2, 3, 1, 1, 1}

	someLengths = []int64{1, 2, 3, 7, 999, 1000, 25000, 65536, 99999, maxLength}

	// These are just beyond and far beyond both bounds.
	noScales  = append([]int64{-1, 6, -2, 7, -5, 256, 1 << 32, limit, -limit}, noValues...)
	noLengths = append([]int64{0, maxLength + 1, -1, maxLength + 2, -maxLength, 1 << 32, limit, -limit}, noValues...)
)

func TestConstantsOfChapter5(t *testing.T) {
	for want, scale := range allScales {
		if scale != int64(want) {
			t.Errorf("scale %d is %d", want, scale)
		}
	}
	if maxLength != 100000 {
		t.Error("MaxLength", maxLength)
	}
}

func TestIsScale(t *testing.T) {
	for _, scale := range allScales {
		if !impl.IsScale(scale) {
			t.Error(scale, "is a scale")
		}
	}
	for _, scale := range noScales {
		if impl.IsScale(scale) {
			t.Error(scale, "is no scale")
		}
	}
}

func TestPositionOfExamples(t *testing.T) {
	cases := []struct {
		scale int64
		f     impl.Figure
		want  impl.Interval
	}{
		{impl.ScaleC, figure(1000, 0), interval(0, 1)},
		{impl.ScaleC, figure(1001, 0), interval(455, 456)},
		{impl.ScaleC, figure(2000, 0), interval(315652, 315653)},
		{impl.ScaleC, figure(2000, 1), interval(315652, 315653)},
		{impl.ScaleC, figure(2000, -1), interval(315652, 315653)},
		{impl.ScaleC, figure(3493, 30), interval(569584, 569586)},
		{impl.ScaleC, figure(9999, 30), interval(1048530, 1048531)},
		{impl.ScaleC, figure(9999, -30), interval(1048530, 1048531)},
		{impl.ScaleA, figure(1000, 0), interval(0, 1)},
		{impl.ScaleA, figure(1001, 0), interval(227, 228)},
		{impl.ScaleA, figure(2000, 0), interval(157826, 157827)},
		{impl.ScaleA, figure(3493, 0), interval(284792, 284793)},
		{impl.ScaleA, figure(9999, 0), interval(524265, 524266)},
		{impl.ScaleA, figure(1000, 1), interval(524288, 524289)},
		{impl.ScaleA, figure(2000, 1), interval(682114, 682115)},
		{impl.ScaleA, figure(9999, 1), interval(1048553, 1048554)},
		{impl.ScaleA, figure(2000, 2), interval(157826, 157827)},
		{impl.ScaleA, figure(2000, -1), interval(682114, 682115)},
		{impl.ScaleA, figure(2000, -2), interval(157826, 157827)},
		{impl.ScaleA, figure(1000, 29), interval(524288, 524289)},
		{impl.ScaleA, figure(1000, -29), interval(524288, 524289)},
		{impl.ScaleA, figure(9999, 30), interval(524265, 524266)},
		{impl.ScaleA, figure(9999, -30), interval(524265, 524266)},
		{impl.ScaleK, figure(1000, 0), interval(0, 1)},
		{impl.ScaleK, figure(1001, 0), interval(151, 152)},
		{impl.ScaleK, figure(2000, 0), interval(105217, 105218)},
		{impl.ScaleK, figure(3493, 0), interval(189861, 189862)},
		{impl.ScaleK, figure(1000, 1), interval(349525, 349526)},
		{impl.ScaleK, figure(2000, 1), interval(454742, 454743)},
		{impl.ScaleK, figure(2000, 2), interval(804268, 804269)},
		{impl.ScaleK, figure(9999, 2), interval(1048560, 1048561)},
		{impl.ScaleK, figure(2000, 3), interval(105217, 105218)},
		{impl.ScaleK, figure(2000, -1), interval(804268, 804269)},
		{impl.ScaleK, figure(2000, -2), interval(454742, 454743)},
		{impl.ScaleK, figure(2000, -3), interval(105217, 105218)},
		{impl.ScaleK, figure(1000, 29), interval(699050, 699051)},
		{impl.ScaleK, figure(1000, -29), interval(349525, 349526)},
		{impl.ScaleK, figure(9999, 30), interval(349510, 349511)},
		{impl.ScaleK, figure(9999, -30), interval(349510, 349511)},
		{impl.ScaleCI, figure(1000, 0), interval(1048575, 1048576)},
		{impl.ScaleCI, figure(1001, 0), interval(1048120, 1048121)},
		{impl.ScaleCI, figure(2000, 0), interval(732923, 732924)},
		{impl.ScaleCI, figure(2000, -7), interval(732923, 732924)},
		{impl.ScaleCI, figure(3493, 1), interval(478990, 478992)},
		{impl.ScaleCI, figure(9999, 30), interval(45, 46)},
		{impl.ScaleCI, figure(9999, -30), interval(45, 46)},
		{impl.ScaleCF, figure(1000, 0), interval(527217, 527219)},
		{impl.ScaleCF, figure(1000, 30), interval(527217, 527219)},
		{impl.ScaleCF, figure(2000, -1), interval(842869, 842871)},
		{impl.ScaleCF, figure(3141, 0), interval(1048430, 1048432)},
		{impl.ScaleCF, figure(3142, 0), interval(1048575, 1048577)}, // its Low would be -1
		{impl.ScaleCF, figure(3143, 0), interval(144, 146)},
		{impl.ScaleCF, figure(3493, 0), interval(48225, 48228)},
		{impl.ScaleCF, figure(9999, -30), interval(527171, 527173)},
		{impl.ScaleL, figure(1000, 0), interval(0, 0)},
		{impl.ScaleL, figure(1001, 0), interval(116, 117)},
		{impl.ScaleL, figure(1003, 0), interval(349, 350)},
		{impl.ScaleL, figure(2125, 0), interval(131072, 131072)},
		{impl.ScaleL, figure(5500, 0), interval(524288, 524288)},
		{impl.ScaleL, figure(9999, 0), interval(1048459, 1048460)},
	}
	for _, c := range cases {
		checkInterval(t, "PositionOf "+scaleNames[c.scale], c.want, impl.ErrNone)(impl.PositionOf(c.scale, c.f))
	}
}

func TestPositionsFollowTheirDefinition(t *testing.T) {
	for _, scale := range allScales {
		for digits := int64(1000); digits <= 9999; digits++ {
			for _, tens := range []int64{-30, -29, -28, -4, -3, -2, -1, 0, 1, 2, 3, 4, 28, 29, 30} {
				f := figure(digits, tens)
				if scale == impl.ScaleL && tens != 0 {
					checkInterval(t, "PositionOf L", noLog, impl.ErrRange)(impl.PositionOf(scale, f))
					continue
				}
				checkInterval(t, "PositionOf "+scaleNames[scale], definedPosition(scale, f), impl.ErrNone)(impl.PositionOf(scale, f))
			}
		}
	}
}

func TestPositionsContainTheTrueOnes(t *testing.T) {
	p := exactLog(3142, 1000, 0)
	for digits := int64(1000); digits <= 9999; digits++ {
		exact := exactLog(digits, 1000, 0)
		checkTruePosition(t, impl.ScaleC, figure(digits, 5), 1, exact)
		checkTruePosition(t, impl.ScaleCI, figure(digits, -5), 1, interval(decade<<fineBits-exact.High, decade<<fineBits-exact.Low))
		folded := interval(exact.Low-p.High, exact.High-p.Low)
		if digits <= 3142 {
			folded = interval(folded.Low+decade<<fineBits, folded.High+decade<<fineBits)
		}
		checkTruePosition(t, impl.ScaleCF, figure(digits, 1), 1, folded)
		for tens := int64(0); tens < 2; tens++ {
			checkTruePosition(t, impl.ScaleA, figure(digits, tens-6), 2, exactLog(digits, 1000, tens))
		}
		for tens := int64(0); tens < 3; tens++ {
			checkTruePosition(t, impl.ScaleK, figure(digits, tens-6), 3, exactLog(digits, 1000, tens))
		}
		linear := (digits - 1000) * decade << fineBits
		checkTruePosition(t, impl.ScaleL, figure(digits, 0), 9000, interval(linear, linear))
	}
}

// Promise 6: greater figures stand farther to the right.

func TestGreaterFiguresStandFartherToTheRight(t *testing.T) {
	for _, scale := range allScales {
		for _, tens := range []int64{0, 1, 2, -6, 24} {
			if scale == impl.ScaleL && tens != 0 {
				continue
			}
			last := interval(-limit, -1)
			for _, f := range fromLeftToRight(scale, tens) {
				a, code := impl.PositionOf(scale, f)
				if code != impl.ErrNone || !impl.IsInterval(a) || a.Low <= last.High || a.High > decade+1 {
					t.Fatalf("PositionOf(%d, %v) = %v, %d, after %v", scale, f, a, code, last)
				}
				last = a
			}
		}
	}
}

func TestPlacesOfGreaterFiguresAreNotFartherToTheLeft(t *testing.T) {
	for _, scale := range allScales {
		for _, length := range someLengths {
			last := interval(0, 0)
			for i, f := range fromLeftToRight(scale, 0) {
				p, code := impl.PlaceOf(scale, f, length)
				if code != impl.ErrNone || !impl.IsInterval(p) || p.Low < last.Low || p.High < last.High || p.Low > length || p.High > length+1 {
					t.Fatalf("PlaceOf(%d, %v, %d) = %v, %d, after %v", scale, f, length, p, code, last)
				}
				// On a long scale of one decade the places do not even touch.
				if length == maxLength && allDecades[scale] == 1 && i > 0 && p.Low <= last.High {
					t.Fatalf("PlaceOf(%d, %v, %d) = %v touches %v", scale, f, length, p, last)
				}
				last = p
			}
		}
	}
}

func TestIsRising(t *testing.T) {
	for _, scale := range allScales {
		rising, code := impl.IsRising(scale)
		if rising != (scale != impl.ScaleCI) || code != impl.ErrNone {
			t.Errorf("IsRising(%d) = %v, %d", scale, rising, code)
		}
		for digits := int64(1000); digits < 9999; digits++ {
			if scale == impl.ScaleCF && digits == 3142 {
				continue
			}
			a, _ := impl.PositionOf(scale, figure(digits, 0))
			b, _ := impl.PositionOf(scale, figure(digits+1, 0))
			if rising != (a.High < b.Low) || rising == (b.High < a.Low) {
				t.Errorf("IsRising(%d) = %v, but %v is before %v", scale, rising, a, b)
			}
		}
	}
	for _, scale := range noScales {
		if rising, code := impl.IsRising(scale); rising || code != impl.ErrRange {
			t.Errorf("IsRising(%d) = %v, %d", scale, rising, code)
		}
	}
}

func TestDecadesOf(t *testing.T) {
	for _, scale := range allScales {
		decades, code := impl.DecadesOf(scale)
		if decades != allDecades[scale] || code != impl.ErrNone {
			t.Errorf("DecadesOf(%d) = %d, %d", scale, decades, code)
		}
		for tens := int64(-30); tens+decades <= 30 && scale != impl.ScaleL; tens++ {
			a, _ := impl.PositionOf(scale, figure(3493, tens))
			checkInterval(t, "PositionOf", a, impl.ErrNone)(impl.PositionOf(scale, figure(3493, tens+decades)))
			if b, _ := impl.PositionOf(scale, figure(3493, tens+1)); decades > 1 && a == b {
				t.Errorf("PositionOf(%d): %v for two decades", scale, a)
			}
		}
	}
	for _, scale := range noScales {
		if decades, code := impl.DecadesOf(scale); decades != 0 || code != impl.ErrRange {
			t.Errorf("DecadesOf(%d) = %d, %d", scale, decades, code)
		}
	}
}

// The guarantee of chapter 5: the same figure stands on ScaleA where its root stands on ScaleC.

func TestPowersStandWhereTheirRootsStand(t *testing.T) {
	for root := int64(10); root <= 99; root++ {
		for tens := int64(-7); tens <= 7; tens++ {
			f := figure(root*100, tens)
			checkSameStand(t, impl.ScaleA, exactFigure(root*root, 2*tens-2), f)
			if root <= 21 {
				checkSameStand(t, impl.ScaleK, exactFigure(root*root*root, 3*tens-3), f)
			}
		}
	}
}

func TestPlaceOfExamples(t *testing.T) {
	cases := []struct {
		scale  int64
		f      impl.Figure
		length int64
		want   impl.Interval
	}{
		{impl.ScaleC, figure(1000, 0), 25000, interval(0, 1)},
		{impl.ScaleC, figure(2000, 0), 25000, interval(7525, 7526)},
		{impl.ScaleC, figure(2000, -30), 25000, interval(7525, 7526)},
		{impl.ScaleC, figure(2000, 0), 1, interval(0, 1)},
		{impl.ScaleC, figure(2000, 0), 7, interval(2, 3)},
		{impl.ScaleC, figure(2000, 0), 99999, interval(30102, 30103)},
		{impl.ScaleC, figure(2000, 0), 100000, interval(30102, 30104)},
		{impl.ScaleC, figure(9999, 0), 1, interval(0, 1)},
		{impl.ScaleC, figure(9999, 30), 100000, interval(99995, 99996)},
		{impl.ScaleA, figure(9999, 0), 25000, interval(12499, 12500)},
		{impl.ScaleA, figure(1000, 1), 25000, interval(12500, 12501)},
		{impl.ScaleA, figure(1000, -1), 99999, interval(49999, 50000)},
		{impl.ScaleK, figure(2000, 2), 25000, interval(19175, 19176)},
		{impl.ScaleK, figure(1000, 29), 99999, interval(66665, 66667)},
		{impl.ScaleCI, figure(2000, 0), 25000, interval(17474, 17475)},
		{impl.ScaleCI, figure(1000, 0), 100000, interval(99999, 100000)},
		{impl.ScaleCI, figure(9999, 0), 25000, interval(1, 2)},
		{impl.ScaleCF, figure(1000, 0), 25000, interval(12569, 12570)},
		{impl.ScaleCF, figure(3143, 0), 25000, interval(3, 4)},
		{impl.ScaleCF, figure(9999, 0), 100000, interval(50274, 50276)},
		// The place of the fold goes beyond the end.
		{impl.ScaleCF, figure(3142, 0), 1, interval(0, 2)},
		{impl.ScaleCF, figure(3142, 0), 25000, interval(24999, 25001)},
		{impl.ScaleCF, figure(3142, 9), 100000, interval(99999, 100001)},
		{impl.ScaleL, figure(1000, 0), 1, interval(0, 0)},
		{impl.ScaleL, figure(1000, 0), 100000, interval(0, 0)},
		{impl.ScaleL, figure(1001, 0), 25000, interval(2, 3)},
		{impl.ScaleL, figure(5500, 0), 25000, interval(12500, 12500)},
		{impl.ScaleL, figure(5500, 0), 99999, interval(49999, 50000)},
		{impl.ScaleL, figure(3142, 0), 25000, interval(5949, 5951)},
		{impl.ScaleL, figure(9999, 0), 100000, interval(99988, 99989)},
	}
	for _, c := range cases {
		checkInterval(t, "PlaceOf "+scaleNames[c.scale], c.want, impl.ErrNone)(impl.PlaceOf(c.scale, c.f, c.length))
	}
}

func TestPlacesFollowTheirDefinition(t *testing.T) {
	for _, scale := range allScales {
		for digits := int64(1000); digits <= 9999; digits += 7 {
			for _, tens := range []int64{0, -30, -1, 1, 30} {
				if scale == impl.ScaleL && tens != 0 {
					continue
				}
				for _, length := range someLengths {
					checkPlace(t, scale, figure(digits, tens), length)
				}
			}
		}
		for length := int64(1); length <= maxLength; length += 97 {
			for _, digits := range []int64{1000, 2125, 3142, 3143, 3493, 5500, 9999} {
				checkPlace(t, scale, figure(digits, 0), length)
			}
		}
	}
}

func TestDistanceBetweenExamples(t *testing.T) {
	cases := []struct {
		scale  int64
		a, b   impl.Figure
		length int64
		want   impl.Interval
	}{
		{impl.ScaleC, figure(1000, 0), figure(2000, 0), 25000, interval(7524, 7526)},
		{impl.ScaleC, figure(2000, 0), figure(1000, 0), 25000, interval(-7526, -7524)},
		{impl.ScaleC, figure(2000, 0), figure(2000, 0), 25000, interval(-1, 1)},
		{impl.ScaleC, figure(2000, 30), figure(2000, -30), 100000, interval(-2, 2)},
		{impl.ScaleC, figure(1000, 0), figure(9999, 0), 1, interval(-1, 1)},
		{impl.ScaleC, figure(1000, 0), figure(9999, 0), 100000, interval(99994, 99996)},
		{impl.ScaleA, figure(9999, 0), figure(1000, 1), 25000, interval(0, 2)},
		{impl.ScaleA, figure(1000, 1), figure(9999, 0), 25000, interval(-2, 0)},
		{impl.ScaleK, figure(2000, 0), figure(2000, 2), 25000, interval(16666, 16668)},
		{impl.ScaleCI, figure(1000, 0), figure(2000, 0), 25000, interval(-7526, -7524)},
		{impl.ScaleCI, figure(2000, 0), figure(1000, 0), 25000, interval(7524, 7526)},
		{impl.ScaleCF, figure(3142, 0), figure(3143, 0), 25000, interval(-24998, -24995)},
		{impl.ScaleCF, figure(3143, 0), figure(3142, 0), 25000, interval(24995, 24998)},
		{impl.ScaleL, figure(1000, 0), figure(5500, 0), 25000, interval(12500, 12500)},
		{impl.ScaleL, figure(5500, 0), figure(1000, 0), 25000, interval(-12500, -12500)},
		{impl.ScaleL, figure(1000, 0), figure(1000, 0), 1, interval(0, 0)},
		{impl.ScaleL, figure(3142, 0), figure(1001, 0), 25000, interval(-5949, -5946)},
	}
	for _, c := range cases {
		checkInterval(t, "DistanceBetween "+scaleNames[c.scale], c.want, impl.ErrNone)(impl.DistanceBetween(c.scale, c.a, c.b, c.length))
	}
}

func TestDistancesAreDifferencesOfPlaces(t *testing.T) {
	for _, scale := range allScales {
		for _, m := range someDigits {
			for _, n := range someDigits {
				a, b := figure(m, 0), figure(n, 0)
				if scale != impl.ScaleL {
					a.Tens, b.Tens = m%61-30, n%61-30
				}
				for _, length := range someLengths {
					p, q := definedPlace(scale, a, length), definedPlace(scale, b, length)
					want := interval(q.Low-p.High, q.High-p.Low)
					checkInterval(t, "DistanceBetween "+scaleNames[scale], want, impl.ErrNone)(impl.DistanceBetween(scale, a, b, length))
				}
			}
		}
	}
}

func TestEqualRatiosHaveEqualDistances(t *testing.T) {
	for _, length := range someLengths {
		a, one := impl.DistanceBetween(impl.ScaleC, figure(1000, 0), figure(2000, 0), length)
		for digits := int64(1000); digits < 5000; digits++ {
			b, two := impl.DistanceBetween(impl.ScaleC, figure(digits, 0), figure(2*digits, 0), length)
			if one != impl.ErrNone || two != impl.ErrNone || a.Low > b.High || b.Low > a.High || b.High-b.Low > 4 {
				t.Errorf("DistanceBetween of %d and its double: %v; of 1 and 2: %v", digits, b, a)
			}
		}
	}
}

func TestInvalidFiguresOfScalesComeFirst(t *testing.T) {
	scales := append(slices.Clone(allScales), noScales...)
	for _, f := range noFigures {
		for _, scale := range scales {
			checkInterval(t, "PositionOf", noLog, impl.ErrInvalid)(impl.PositionOf(scale, f))
			for _, length := range []int64{1, maxLength, 0, maxLength + 1, math.MinInt64} {
				checkInterval(t, "PlaceOf", noLog, impl.ErrInvalid)(impl.PlaceOf(scale, f, length))
				for _, g := range []impl.Figure{figure(1000, 0), figure(9999, 1), figure(9999, -30), f} {
					checkInterval(t, "DistanceBetween", noLog, impl.ErrInvalid)(impl.DistanceBetween(scale, f, g, length))
					checkInterval(t, "DistanceBetween", noLog, impl.ErrInvalid)(impl.DistanceBetween(scale, g, f, length))
				}
			}
		}
	}
}

func TestScalesAndLengthsOutOfRange(t *testing.T) {
	f := figure(2000, 0)
	for _, scale := range noScales {
		for _, g := range []impl.Figure{f, figure(1000, -30), figure(9999, 30)} {
			checkInterval(t, "PositionOf", noLog, impl.ErrRange)(impl.PositionOf(scale, g))
			for _, length := range []int64{1, maxLength, 0, maxLength + 1} {
				checkInterval(t, "PlaceOf", noLog, impl.ErrRange)(impl.PlaceOf(scale, g, length))
				checkInterval(t, "DistanceBetween", noLog, impl.ErrRange)(impl.DistanceBetween(scale, f, g, length))
			}
		}
	}
	for _, scale := range allScales {
		for _, length := range noLengths {
			checkInterval(t, "PlaceOf", noLog, impl.ErrRange)(impl.PlaceOf(scale, f, length))
			checkInterval(t, "DistanceBetween", noLog, impl.ErrRange)(impl.DistanceBetween(scale, f, f, length))
		}
	}
}

func TestScaleLShowsOneDecadeOnly(t *testing.T) {
	f := figure(2000, 0)
	for tens := int64(-30); tens <= 30; tens++ {
		g := figure(2000, tens)
		if tens == 0 {
			continue
		}
		checkInterval(t, "PositionOf", noLog, impl.ErrRange)(impl.PositionOf(impl.ScaleL, g))
		for _, length := range []int64{1, 25000, maxLength, 0, maxLength + 1} {
			checkInterval(t, "PlaceOf", noLog, impl.ErrRange)(impl.PlaceOf(impl.ScaleL, g, length))
			checkInterval(t, "DistanceBetween", noLog, impl.ErrRange)(impl.DistanceBetween(impl.ScaleL, f, g, length))
			checkInterval(t, "DistanceBetween", noLog, impl.ErrRange)(impl.DistanceBetween(impl.ScaleL, g, f, length))
			checkInterval(t, "DistanceBetween", noLog, impl.ErrRange)(impl.DistanceBetween(impl.ScaleL, g, g, length))
		}
	}
}

func TestScaleNames(t *testing.T) {
	for _, scale := range allScales {
		name, code := impl.ScaleName(scale)
		if name != scaleNames[scale] || code != impl.ErrNone {
			t.Errorf("ScaleName(%d) = %q, %d", scale, name, code)
		}
		checkReadScale(t, name)
	}
	for _, scale := range noScales {
		if name, code := impl.ScaleName(scale); name != "" || code != impl.ErrRange {
			t.Errorf("ScaleName(%d) = %q, %d", scale, name, code)
		}
	}
}

func TestReadScaleAcceptsExactlyTheNames(t *testing.T) {
	checkReadScale(t, "")
	for b := range 256 {
		checkReadScale(t, string([]byte{byte(b)}))
		for c := range 256 {
			checkReadScale(t, string([]byte{byte(b), byte(c)}))
		}
	}
	for _, name := range append(slices.Clone(scaleNames), "c", "ScaleC", "CIF", "C,A", "\u0421", "\uff23") {
		for _, s := range []string{name + " ", " " + name, name + "\n", name + "\x00", name + name, name + "I", name + "F", name + "0", name} {
			checkReadScale(t, s)
		}
	}
}

// definedPosition follows the definition of the document. The floats that it rounds are exact
// enough: the numbers are small, and the fractions of their quotients are not near to integers.
func definedPosition(scale int64, f impl.Figure) impl.Interval {
	a, p := logsOfDecade()[f.Digits-1000], logsOfDecade()[3142-1000]
	switch scale {
	case impl.ScaleA:
		before := (f.Tens + 60) % 2 * decade
		return roundedOut(a.Low+before, a.High+before, 2)
	case impl.ScaleK:
		before := (f.Tens + 60) % 3 * decade
		return roundedOut(a.Low+before, a.High+before, 3)
	case impl.ScaleCI:
		return interval(decade-a.High, decade-a.Low)
	case impl.ScaleCF:
		if a.Low-p.High < 0 {
			return interval(a.Low-p.High+decade, a.High-p.Low+decade)
		}
		return interval(a.Low-p.High, a.High-p.Low)
	case impl.ScaleL:
		return roundedOut((f.Digits-1000)*decade, (f.Digits-1000)*decade, 9000)
	}
	return a
}

func definedPlace(scale int64, f impl.Figure, length int64) impl.Interval {
	a := definedPosition(scale, f)
	return roundedOut(a.Low*length, a.High*length, decade)
}

func roundedOut(low, high, d int64) impl.Interval {
	return interval(int64(math.Floor(float64(low)/float64(d))), int64(math.Ceil(float64(high)/float64(d))))
}

func checkPlace(t *testing.T, scale int64, f impl.Figure, length int64) {
	t.Helper()
	checkInterval(t, "PlaceOf "+scaleNames[scale], definedPlace(scale, f, length), impl.ErrNone)(impl.PlaceOf(scale, f, length))
}

// checkTruePosition tells whether a position, times d, contains an interval in parts of a unit.
func checkTruePosition(t *testing.T, scale int64, f impl.Figure, d int64, exact impl.Interval) {
	t.Helper()
	a, code := impl.PositionOf(scale, f)
	if code != impl.ErrNone {
		t.Errorf("PositionOf(%d, %v): %d", scale, f, code)
	}
	checkContains(t, "PositionOf "+scaleNames[scale], interval(a.Low*d, a.High*d), exact)
}

// fromLeftToRight lists the figures of a scale, beginning with a decade of these tens, or of
// the nearest smaller ones that begin the scale.
func fromLeftToRight(scale, tens int64) []impl.Figure {
	decades := allDecades[scale]
	tens -= (tens + 60) % decades
	var figures []impl.Figure
	for i := range decades {
		for digits := int64(1000); digits <= 9999; digits++ {
			figures = append(figures, figure(digits, tens+i))
		}
	}
	switch scale {
	case impl.ScaleCI:
		slices.Reverse(figures)
	case impl.ScaleCF:
		return append(slices.Clone(figures[3143-1000:]), figures[:3143-1000]...)
	}
	return figures
}

// exactFigure is the figure n times a power of ten, where n has at most four digits.
func exactFigure(n, tens int64) impl.Figure {
	tens += 3
	for n < 1000 {
		n *= 10
		tens--
	}
	return figure(n, tens)
}

// checkSameStand compares with the position of a root on ScaleC: both contain the same true one.
func checkSameStand(t *testing.T, scale int64, power, root impl.Figure) {
	t.Helper()
	a, one := impl.PositionOf(scale, power)
	b, two := impl.PositionOf(impl.ScaleC, root)
	if one != impl.ErrNone || two != impl.ErrNone || a.Low > b.High || b.Low > a.High || a.High-a.Low > 3 {
		t.Errorf("%v stands at %v on scale %d, its root %v at %v", power, a, scale, root, b)
	}
}

func checkReadScale(t *testing.T, s string) {
	t.Helper()
	want, wantCode := int64(slices.Index(scaleNames, s)), int64(impl.ErrNone)
	if want < 0 {
		want, wantCode = 0, impl.ErrSyntax
	}
	if scale, code := impl.ReadScale(s); scale != want || code != wantCode {
		t.Errorf("ReadScale(%s) = %d, %d; want %d, %d", strconv.Quote(s), scale, code, want, wantCode)
	}
}
