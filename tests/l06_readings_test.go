package tests

import (
	"math"
	"slices"
	"testing"

	"loop.example/g00951/impl"
)

const maxEye = int64(impl.MaxEye)

var (
	someEyes = []int64{0, 1, 2, 20, 199, maxEye}

	// These are just beyond and far beyond both bounds.
	noEyes = append([]int64{-1, maxEye + 1, -2, maxEye + 2, -maxEye, 1 << 32, limit, -limit}, noValues...)
)

func TestConstantsOfChapter6(t *testing.T) {
	if maxEye != 200 {
		t.Error("MaxEye", maxEye)
	}
}

func TestMayBeAtExamples(t *testing.T) {
	cases := []struct {
		scale       int64
		f           impl.Figure
		length      int64
		point, eye  int64
		first, last int64 // the points where the figure may be with this eye
	}{
		{impl.ScaleC, figure(2000, 0), 25000, 7526, 0, 7525, 7526},
		{impl.ScaleC, figure(2000, 30), 25000, 7525, 0, 7525, 7526},
		{impl.ScaleC, figure(2000, -30), 25000, 7527, 1, 7524, 7527},
		{impl.ScaleC, figure(2000, 1), 25000, 7527, 20, 7505, 7546},
		{impl.ScaleC, figure(2000, 0), 25000, 7700, maxEye, 7325, 7726},
		{impl.ScaleC, figure(1000, 0), 25000, 0, 0, 0, 1},
		{impl.ScaleC, figure(1000, 0), 25000, 0, maxEye, 0, 201},
		{impl.ScaleC, figure(9999, 0), 25000, 25000, 1, 24997, 25000},
		{impl.ScaleC, figure(2001, 0), 25000, 7531, 0, 7531, 7532}, // its last digit is not 0
		{impl.ScaleC, figure(2000, 0), 1, 0, 0, 0, 1},
		{impl.ScaleC, figure(2000, 0), maxLength, 30103, 0, 30102, 30104},
		{impl.ScaleA, figure(1000, 1), 25000, 12500, 0, 12500, 12501},
		{impl.ScaleA, figure(1000, 0), 25000, 0, 0, 0, 1},
		{impl.ScaleA, figure(1000, -1), 25000, 12500, 3, 12497, 12504},
		{impl.ScaleA, figure(1000, -30), 25000, 1, 3, 0, 4},
		{impl.ScaleK, figure(2000, 2), 25000, 19175, 0, 19175, 19176},
		{impl.ScaleK, figure(2000, 29), 25000, 19175, 0, 19175, 19176},
		{impl.ScaleCI, figure(2000, 0), 25000, 17474, 0, 17474, 17475},
		{impl.ScaleCI, figure(1000, 7), 25000, 25000, 20, 24979, 25000},
		{impl.ScaleCF, figure(1000, 0), 25000, 12569, 20, 12549, 12590},
		{impl.ScaleCF, figure(3142, 0), 25000, 25000, 0, 24999, 25000}, // its place ends beyond the length
		{impl.ScaleCF, figure(3142, 9), 25000, 25000, 20, 24979, 25000},
		{impl.ScaleCF, figure(3142, 0), 1, 0, 0, 0, 1},
		{impl.ScaleL, figure(1000, 0), 25000, 0, 0, 0, 0},
		{impl.ScaleL, figure(5500, 0), 25000, 12500, 0, 12500, 12500},
		{impl.ScaleL, figure(5500, 0), 25000, 12500, maxEye, 12300, 12700},
		{impl.ScaleL, figure(9999, 0), maxLength, 99988, 11, 99977, 100000},
	}
	for _, c := range cases {
		for _, point := range []int64{c.point, c.first - 1, c.first, c.first + 1, c.last - 1, c.last, c.last + 1, 0, 1, c.length - 1, c.length} {
			if point < 0 || point > c.length {
				continue
			}
			want := c.first <= point && point <= c.last
			checkMayBeAt(t, want, impl.ErrNone)(impl.MayBeAt(c.scale, c.f, c.length, point, c.eye))
		}
	}
}

func TestMayBeAtFollowsItsDefinition(t *testing.T) {
	for _, scale := range allScales {
		for _, tens := range []int64{0, 1, 2, -1, -30, 30} {
			if scale == impl.ScaleL && tens != 0 {
				continue
			}
			for digits := int64(1000); digits <= 9999; digits += 61 {
				for _, length := range someLengths {
					for _, eye := range someEyes {
						checkEndsOfEye(t, scale, figure(digits, tens), length, eye)
					}
				}
			}
		}
	}
}

// Promise 6: a figure is among the readings of its own place.

func TestFiguresMayBeAtTheirOwnPlaces(t *testing.T) {
	for _, scale := range allScales {
		for _, f := range fromLeftToRight(scale, 0) {
			for _, length := range someLengths {
				place, _ := impl.PlaceOf(scale, f, length)
				for point := place.Low; point <= min(place.High, length); point++ {
					checkMayBeAt(t, true, impl.ErrNone)(impl.MayBeAt(scale, f, length, point, 0))
					checkMayBeAt(t, true, impl.ErrNone)(impl.MayBeAt(scale, f, length, point, maxEye))
				}
			}
		}
	}
}

func TestFiguresAreAmongTheReadingsOfTheirOwnPlaces(t *testing.T) {
	for _, scale := range allScales {
		for _, f := range figuresOfScale(scale) {
			for _, length := range []int64{1, 25000, maxLength} {
				place, _ := impl.PlaceOf(scale, f, length)
				for point := place.Low; point <= min(place.High, length); point++ {
					checkAmongReadings(t, scale, f, length, point, 0)
					checkAmongReadings(t, scale, f, length, point, 20)
				}
			}
		}
	}
}

func TestReadingExamples(t *testing.T) {
	cases := []struct {
		scale, length, point, eye int64
		first, last               impl.Figure
		count, millionths         int64
	}{
		{impl.ScaleC, 25000, 7526, 0, figure(2000, 0), figure(2000, 0), 1, 0},
		{impl.ScaleC, 25000, 7526, 20, figure(2000, 0), figure(2000, 0), 1, 0},
		{impl.ScaleC, 25000, 7526, 200, figure(1970, 0), figure(2030, 0), 7, 30457},
		{impl.ScaleC, 25000, 0, 0, figure(1000, 0), figure(1000, 0), 1, 0},
		{impl.ScaleC, 25000, 25000, 10, figure(9990, 0), figure(9990, 0), 1, 0},
		{impl.ScaleC, 25000, 25000, 200, figure(9820, 0), figure(9990, 0), 18, 17312},
		{impl.ScaleC, 1, 0, 0, figure(1000, 0), figure(9990, 0), 900, 8990000},
		{impl.ScaleC, 1, 1, 200, figure(1000, 0), figure(9990, 0), 900, 8990000},
		{impl.ScaleA, 25000, 12500, 0, figure(1000, 1), figure(1000, 1), 1, 0},
		{impl.ScaleA, 25000, 12500, 20, figure(9970, 0), figure(1000, 1), 4, 3010},
		{impl.ScaleA, 25000, 12500, 200, figure(9640, 0), figure(1030, 1), 40, 68465},
		{impl.ScaleA, 800, 200, 199, figure(1000, 0), figure(9990, 0), 900, 8990000},
		{impl.ScaleA, 800, 200, 200, figure(1000, 0), figure(1000, 1), 901, 9000000}, // the greatest relative error
		{impl.ScaleK, 25000, 8333, 20, figure(9950, 0), figure(1000, 1), 6, 5026},
		{impl.ScaleK, 25000, 16667, 20, figure(9950, 1), figure(1000, 2), 6, 5026},
		{impl.ScaleK, 25000, 25000, 5, figure(9990, 2), figure(9990, 2), 1, 0},
		{impl.ScaleCI, 25000, 17475, 20, figure(2000, 0), figure(2000, 0), 1, 0},
		{impl.ScaleCI, 25000, 17475, 200, figure(1970, 0), figure(2030, 0), 7, 30457},
		{impl.ScaleCI, 25000, 0, 20, figure(9990, 0), figure(9990, 0), 1, 0},
		{impl.ScaleCI, 25000, 25000, 0, figure(1000, 0), figure(1000, 0), 1, 0},
		{impl.ScaleCI, 1, 1, 0, figure(1000, 0), figure(9990, 0), 900, 8990000},
		{impl.ScaleCF, 25000, 0, 200, figure(3150, 0), figure(3200, 0), 6, 15874},
		{impl.ScaleCF, 25000, 25000, 200, figure(3090, 0), figure(3140, 0), 6, 16182},
		{impl.ScaleCF, 25000, 12570, 0, figure(1000, 0), figure(1000, 0), 1, 0},
		// The least and the greatest figure of the scale stand side by side on ScaleCF.
		{impl.ScaleCF, 25000, 12570, 20, figure(1000, 0), figure(9990, 0), 2, 8990000},
		{impl.ScaleCF, 500, 250, 200, figure(1000, 0), figure(9990, 0), 757, 8990000},
		{impl.ScaleL, 25000, 0, 0, figure(1000, 0), figure(1000, 0), 1, 0},
		{impl.ScaleL, 25000, 12500, 26, figure(5500, 0), figure(5500, 0), 1, 0},
		{impl.ScaleL, 25000, 12500, 27, figure(5490, 0), figure(5510, 0), 3, 3643},
		{impl.ScaleL, 25000, 25000, 27, figure(9990, 0), figure(9990, 0), 1, 0},
		{impl.ScaleL, 1, 0, 0, figure(1000, 0), figure(9990, 0), 900, 8990000},
		{impl.ScaleL, 1, 1, 0, figure(1010, 0), figure(9990, 0), 899, 8891090},
	}
	for _, c := range cases {
		name := "of " + scaleNames[c.scale]
		checkFigure(t, "FirstReading "+name, c.first, impl.ErrNone)(impl.FirstReading(c.scale, c.length, c.point, c.eye))
		checkFigure(t, "LastReading "+name, c.last, impl.ErrNone)(impl.LastReading(c.scale, c.length, c.point, c.eye))
		checkNumber(t, "CountReadings "+name, c.count, impl.ErrNone)(impl.CountReadings(c.scale, c.length, c.point, c.eye))
		checkNumber(t, "ReadError "+name, c.millionths, impl.ErrNone)(impl.ReadError(c.scale, c.length, c.point, c.eye))
	}
}

func TestPointsWithoutReadings(t *testing.T) {
	cases := []struct{ scale, length, point, eye int64 }{
		{impl.ScaleC, 25000, 7550, 5},
		{impl.ScaleC, 25000, 7527, 0},
		{impl.ScaleC, 25000, 25000, 9}, // beyond the last figure, which ends at 24990
		{impl.ScaleA, 25000, 12502, 0},
		{impl.ScaleK, 25000, 25000, 0},
		{impl.ScaleCI, 25000, 0, 0},
		{impl.ScaleCI, 25000, 24999 - 50, 20},
		{impl.ScaleCF, 25000, 0, 20},
		{impl.ScaleCF, 25000, 25000, 0},
		{impl.ScaleCF, 25000, 12571, 0},
		{impl.ScaleL, 25000, 1, 0},
		{impl.ScaleL, 25000, 25000, 26},
		{impl.ScaleL, maxLength, 50055, 54},
	}
	for _, c := range cases {
		checkFigure(t, "FirstReading", none, impl.ErrNotFound)(impl.FirstReading(c.scale, c.length, c.point, c.eye))
		checkFigure(t, "LastReading", none, impl.ErrNotFound)(impl.LastReading(c.scale, c.length, c.point, c.eye))
		checkNumber(t, "CountReadings", 0, impl.ErrNone)(impl.CountReadings(c.scale, c.length, c.point, c.eye))
		checkNumber(t, "ReadError", 0, impl.ErrNotFound)(impl.ReadError(c.scale, c.length, c.point, c.eye))
	}
}

func TestReadErrorsAboveTheLimit(t *testing.T) {
	for _, c := range []struct{ scale, length, point, eye int64 }{
		{impl.ScaleA, 800, 201, 200}, // just above: from 1.000 to 10.10
		{impl.ScaleA, 800, 400, 200},
		{impl.ScaleA, 1, 0, 0},
		{impl.ScaleK, 1, 0, 0},
		{impl.ScaleK, 1, 1, 200},
		{impl.ScaleK, 500, 250, 200},
	} {
		checkNumber(t, "ReadError", 0, impl.ErrLimit)(impl.ReadError(c.scale, c.length, c.point, c.eye))
		if first, code := impl.FirstReading(c.scale, c.length, c.point, c.eye); first == none || code != impl.ErrNone {
			t.Errorf("FirstReading: %v, %d", first, code)
		}
	}
}

func TestReadingsFollowTheirDefinition(t *testing.T) {
	for _, scale := range allScales {
		for _, length := range append([]int64{10, 100, 500, 800}, someLengths...) {
			places := placesOfScale(scale, length)
			for _, point := range somePoints(length) {
				for _, eye := range someEyes {
					checkReadings(t, scale, length, point, eye, places)
				}
			}
		}
	}
}

func TestReadingsOfAllPoints(t *testing.T) {
	for _, scale := range allScales {
		for length := int64(1); length <= 40; length += 3 {
			places := placesOfScale(scale, length)
			for point := int64(0); point <= length; point++ {
				checkReadings(t, scale, length, point, point%3, places)
			}
		}
	}
}

func TestBestReadingExamples(t *testing.T) {
	cases := []struct {
		scale, length, point int64
		want                 impl.Figure
	}{
		{impl.ScaleC, 25000, 7530, figure(2000, 0)},
		{impl.ScaleC, 25000, 7550, figure(2000, 0)},
		{impl.ScaleC, 25000, 7552, figure(2000, 0)},
		{impl.ScaleC, 25000, 7553, figure(2010, 0)},
		{impl.ScaleC, 25000, 0, figure(1000, 0)},
		{impl.ScaleC, 25000, 25000, figure(9990, 0)},
		{impl.ScaleC, 25000, 784, figure(1070, 0)},
		{impl.ScaleC, 25000, 785, figure(1070, 0)}, // as near to 1080
		{impl.ScaleC, 25000, 786, figure(1080, 0)},
		{impl.ScaleC, 2, 1, figure(1000, 0)}, // all are as near
		{impl.ScaleA, 25000, 12500, figure(1000, 1)},
		{impl.ScaleA, 25000, 12498, figure(1000, 1)},
		{impl.ScaleA, 25000, 12497, figure(9990, 0)},
		{impl.ScaleA, 25000, 25000, figure(9990, 1)},
		{impl.ScaleA, 7, 3, figure(3730, 0)}, // as near to 13.80
		{impl.ScaleK, 25000, 54, figure(1010, 0)},
		{impl.ScaleK, 25000, 16667, figure(1000, 2)},
		{impl.ScaleK, 2, 1, figure(1000, 0)},
		// On ScaleCI the least one of several is farther to the right.
		{impl.ScaleCI, 25000, 15, figure(9990, 0)},
		{impl.ScaleCI, 25000, 16, figure(9980, 0)},
		{impl.ScaleCI, 1000, 1, figure(9960, 0)},
		{impl.ScaleCI, 25000, 0, figure(9990, 0)},
		{impl.ScaleCI, 25000, 25000, figure(1000, 0)},
		{impl.ScaleCI, 2, 1, figure(1000, 0)},
		{impl.ScaleCF, 25000, 0, figure(3150, 0)},
		{impl.ScaleCF, 25000, 25000, figure(3140, 0)},
		{impl.ScaleCF, 25000, 12571, figure(1000, 0)},
		{impl.ScaleCF, 25000, 12564, figure(9990, 0)},
		{impl.ScaleCF, 25000, 283, figure(3220, 0)},
		{impl.ScaleCF, 1000, 502, figure(1000, 0)}, // as near to 9990
		{impl.ScaleCF, 500, 250, figure(9900, 0)},
		{impl.ScaleCF, 2, 1, figure(1000, 0)},
		{impl.ScaleL, 25000, 12500, figure(5500, 0)},
		{impl.ScaleL, 25000, 125, figure(1040, 0)}, // as near to 1050
		{impl.ScaleL, 25000, 25000, figure(9990, 0)},
		{impl.ScaleL, 1, 0, figure(1000, 0)},
		{impl.ScaleL, 1, 1, figure(1010, 0)},
	}
	for _, c := range cases {
		checkFigure(t, "BestReading of "+scaleNames[c.scale], c.want, impl.ErrNone)(impl.BestReading(c.scale, c.length, c.point))
	}
}

func TestReadingsWithPointsOutOfRange(t *testing.T) {
	for _, scale := range allScales {
		for _, length := range someLengths {
			for _, point := range append([]int64{-1, length + 1, -length, length + 2, 2*length + 1, limit, -limit}, noValues...) {
				checkReadingErrors(t, scale, length, point, 20)
				checkFigure(t, "BestReading", none, impl.ErrRange)(impl.BestReading(scale, length, point))
			}
			// Both bounds themselves are points.
			for _, point := range []int64{0, length} {
				checkMayBeAtCode(t, scale, length, point, 20, impl.ErrNone)
				checkNumber(t, "CountReadings", definedCount(scale, length, point, 20), impl.ErrNone)(impl.CountReadings(scale, length, point, 20))
			}
		}
	}
}

func TestReadingsWithEyesOutOfRange(t *testing.T) {
	for _, scale := range allScales {
		for _, length := range someLengths {
			for _, eye := range noEyes {
				checkReadingErrors(t, scale, length, 0, eye)
				checkReadingErrors(t, scale, length, length, eye)
				checkReadingErrors(t, scale, length, -1, eye)
			}
			for _, eye := range []int64{0, maxEye} {
				checkMayBeAtCode(t, scale, length, length, eye, impl.ErrNone)
				checkNumber(t, "CountReadings", definedCount(scale, length, 0, eye), impl.ErrNone)(impl.CountReadings(scale, length, 0, eye))
			}
		}
	}
}

func TestReadingsWithScalesAndLengthsOutOfRange(t *testing.T) {
	for _, scale := range noScales {
		for _, length := range []int64{1, 25000, maxLength, 0} {
			checkReadingErrors(t, scale, length, 0, 0)
			checkFigure(t, "BestReading", none, impl.ErrRange)(impl.BestReading(scale, length, 0))
		}
	}
	for _, scale := range allScales {
		for _, length := range noLengths {
			for _, point := range []int64{0, 1, length, maxLength} {
				checkReadingErrors(t, scale, length, point, 0)
				checkFigure(t, "BestReading", none, impl.ErrRange)(impl.BestReading(scale, length, point))
			}
		}
	}
}

func TestMayBeAtAllowsWhatPlaceOfAllows(t *testing.T) {
	for _, scale := range allScales {
		for tens := int64(-30); tens <= 30; tens++ {
			want := int64(impl.ErrNone)
			if scale == impl.ScaleL && tens != 0 {
				want = impl.ErrRange
			}
			if _, code := impl.PlaceOf(scale, figure(2000, tens), 1); code != want {
				t.Errorf("PlaceOf(%d, 2000 with %d): %d", scale, tens, code)
			}
			checkMayBeAt(t, want == impl.ErrNone, want)(impl.MayBeAt(scale, figure(2000, tens), 1, 0, maxEye))
		}
	}
}

func TestInvalidFiguresOfReadingsComeFirst(t *testing.T) {
	for _, f := range noFigures {
		for _, scale := range append(slices.Clone(allScales), -1, 6, math.MinInt64) {
			for _, eye := range []int64{0, maxEye, -1, maxEye + 1} {
				for _, length := range []int64{1, maxLength, 0, maxLength + 1} {
					for _, point := range []int64{0, 1, -1, maxLength + 2} {
						checkMayBeAt(t, false, impl.ErrInvalid)(impl.MayBeAt(scale, f, length, point, eye))
					}
				}
				for parts := int64(0); parts <= 5; parts++ {
					checkNumber(t, "NeededLength", 0, impl.ErrInvalid)(impl.NeededLength(scale, f, eye, parts))
				}
			}
		}
	}
}

func TestNeededLengthExamples(t *testing.T) {
	cases := []struct {
		scale      int64
		f          impl.Figure
		eye, parts int64
		want       int64
	}{
		{impl.ScaleC, figure(1000, 0), 20, 2, 600},
		{impl.ScaleC, figure(1049, 0), 20, 2, 600},
		{impl.ScaleC, figure(1050, 0), 20, 2, 600}, // between 1100 and 1200
		{impl.ScaleC, figure(1000, 0), 0, 1, 100},
		{impl.ScaleC, figure(1000, 0), 200, 1, 700},
		{impl.ScaleC, figure(1000, 0), 0, 4, 2400},
		{impl.ScaleC, figure(1000, 0), 1, 4, 4700},
		{impl.ScaleC, figure(1037, 0), 0, 4, 500}, // but 1600 is not enough
		{impl.ScaleC, figure(1037, 0), 20, 4, 48100},
		{impl.ScaleC, figure(9998, 0), 0, 4, 11600},
		{impl.ScaleC, figure(9998, 0), 3, 4, 80700},
		{impl.ScaleC, figure(9984, 0), 20, 3, 47200},
		{impl.ScaleC, figure(9849, 0), 200, 2, 45500},
		{impl.ScaleC, figure(8499, 0), 200, 1, 4000},
		{impl.ScaleA, figure(1000, 0), 20, 2, 1100},
		{impl.ScaleA, figure(1000, 1), 20, 2, 1100},
		{impl.ScaleA, figure(9998, 1), 1, 4, 70000},
		{impl.ScaleK, figure(1000, 2), 20, 2, 1600},
		{impl.ScaleK, figure(9998, 0), 0, 4, 11800},
		{impl.ScaleK, figure(9998, 2), 0, 4, 35000},
		// The next figure is on the left.
		{impl.ScaleCI, figure(1000, 0), 20, 2, 600},
		{impl.ScaleCI, figure(3142, 0), 0, 4, 1100},
		// The figure is at the right end, and the next one at the left end.
		{impl.ScaleCF, figure(3142, 0), 0, 4, 100},
		{impl.ScaleCF, figure(3142, 0), 200, 4, 300},
		{impl.ScaleCF, figure(3000, 0), 200, 1, 300},
		{impl.ScaleL, figure(1000, 0), 0, 4, 100},
		{impl.ScaleL, figure(1000, 0), 20, 2, 1900},
		{impl.ScaleL, figure(1000, 0), 11, 4, 99500},
		{impl.ScaleL, figure(8000, 0), 200, 1, 1900},
		// The greatest length is just enough.
		{impl.ScaleC, figure(2260, 0), 191, 3, maxLength},
		{impl.ScaleK, figure(7900, 0), 181, 2, maxLength},
		{impl.ScaleCI, figure(2260, 0), 191, 3, maxLength},
		{impl.ScaleCF, figure(2250, 0), 192, 3, maxLength},
		{impl.ScaleL, figure(1000, 0), 111, 3, maxLength},
	}
	for _, c := range cases {
		checkNumber(t, "NeededLength of "+scaleNames[c.scale], c.want, impl.ErrNone)(impl.NeededLength(c.scale, c.f, c.eye, c.parts))
	}
}

func TestNoLengthIsEnough(t *testing.T) {
	cases := []struct {
		scale      int64
		f          impl.Figure
		eye, parts int64
	}{
		{impl.ScaleC, figure(9998, 0), 4, 4},
		{impl.ScaleC, figure(9980, 0), 200, 3},
		{impl.ScaleC, figure(1000, 0), 200, 4},
		{impl.ScaleA, figure(9998, 1), 2, 4},
		{impl.ScaleK, figure(9998, 2), 1, 4},
		{impl.ScaleCI, figure(9998, 0), 4, 4},
		{impl.ScaleCF, figure(3141, 0), 20, 4},
		{impl.ScaleCF, figure(3143, 0), 20, 4},
		{impl.ScaleL, figure(1000, 0), 12, 4},
		// A length of 100100 would be enough.
		{impl.ScaleC, figure(2250, 0), 192, 3},
		{impl.ScaleK, figure(7900, 0), 182, 2},
		{impl.ScaleCI, figure(2250, 0), 192, 3},
		{impl.ScaleCF, figure(2270, 0), 190, 3},
		{impl.ScaleL, figure(1130, 0), 111, 3},
	}
	for _, c := range cases {
		checkNumber(t, "NeededLength of "+scaleNames[c.scale], 0, impl.ErrNotFound)(impl.NeededLength(c.scale, c.f, c.eye, c.parts))
		// Arguments out of range come before that.
		for _, eye := range noEyes {
			checkNumber(t, "NeededLength", 0, impl.ErrRange)(impl.NeededLength(c.scale, c.f, eye, c.parts))
		}
		for _, scale := range noScales {
			checkNumber(t, "NeededLength", 0, impl.ErrRange)(impl.NeededLength(scale, c.f, c.eye, c.parts))
		}
	}
}

func TestNeededLengthsFollowTheirDefinition(t *testing.T) {
	for _, scale := range allScales {
		for tens := range allDecades[scale] {
			for digits := int64(1000); digits <= 9999; digits += 233 {
				for _, eye := range []int64{0, 1, 3, 20, maxEye} {
					checkNeeded(t, scale, figure(digits, tens), eye, digits%4+1)
					checkNeeded(t, scale, figure(digits, tens), eye, (digits+1)%4+1)
				}
			}
			for _, digits := range []int64{3139, 3140, 3141, 3142, 3143, 3144, 9998} {
				for parts := int64(1); parts <= 4; parts++ {
					checkNeeded(t, scale, figure(digits, tens), 2, parts)
				}
			}
		}
	}
}

func TestFiguresThatLeaveTheDecade(t *testing.T) {
	cases := []struct {
		last  int64 // the greatest digits that stay in the decade, with the next figure
		parts int64
	}{
		{8499, 1}, {9849, 2}, {9984, 3}, {9998, 4},
	}
	for _, scale := range allScales {
		for tens := range allDecades[scale] {
			for _, c := range cases {
				checkNeeded(t, scale, figure(c.last, tens), 0, c.parts)
				if length, code := impl.NeededLength(scale, figure(c.last, tens), 0, c.parts); length == 0 || code != impl.ErrNone {
					t.Errorf("NeededLength of %d: %d, %d", c.last, length, code)
				}
				for _, digits := range []int64{c.last + 1, c.last/10*10 + 15, 9994, 9995, 9999} {
					if digits > c.last && digits <= 9999 {
						checkNumber(t, "NeededLength", 0, impl.ErrRange)(impl.NeededLength(scale, figure(digits, tens), 0, c.parts))
					}
				}
			}
		}
	}
}

func TestNeededLengthErrors(t *testing.T) {
	for _, scale := range allScales {
		for tens := int64(-30); tens <= 30; tens++ {
			if tens < 0 || tens >= allDecades[scale] {
				checkNumber(t, "NeededLength", 0, impl.ErrRange)(impl.NeededLength(scale, figure(2000, tens), 0, 1))
				checkNumber(t, "NeededLength", 0, impl.ErrRange)(impl.NeededLength(scale, figure(9999, tens), 20, 3))
				checkNumber(t, "NeededLength", 0, impl.ErrRange)(impl.NeededLength(scale, figure(9998, tens), 200, 4))
				continue
			}
			for _, parts := range append([]int64{0, 5, -1, 6, 10, -4, 1 << 32, limit, -limit}, noValues...) {
				checkNumber(t, "NeededLength", 0, impl.ErrRange)(impl.NeededLength(scale, figure(2000, tens), 0, parts))
			}
			for _, eye := range noEyes {
				checkNumber(t, "NeededLength", 0, impl.ErrRange)(impl.NeededLength(scale, figure(2000, tens), eye, 1))
			}
			for parts := int64(1); parts <= 4; parts++ {
				checkNeeded(t, scale, figure(2000, tens), 0, parts)
			}
		}
	}
	for _, scale := range noScales {
		for tens := int64(-1); tens <= 3; tens++ {
			checkNumber(t, "NeededLength", 0, impl.ErrRange)(impl.NeededLength(scale, figure(2000, tens), 0, 1))
		}
	}
}

func TestReadingsDoNotDependOnEarlierCalls(t *testing.T) {
	for range 2 {
		for _, length := range []int64{25000, 7, 25001, 25000} {
			for _, scale := range allScales {
				impl.NeededLength(scale, figure(2000, 0), 5, 4)
				checkReadings(t, scale, length, length/3, 20, placesOfScale(scale, length))
			}
		}
	}
}

// figuresOfScale lists the figures of a scale by their sizes.
func figuresOfScale(scale int64) []impl.Figure {
	var figures []impl.Figure
	for tens := range allDecades[scale] {
		for digits := int64(1000); digits <= 9990; digits += 10 {
			figures = append(figures, figure(digits, tens))
		}
	}
	return figures
}

// placesOfScale lists the places of the figures of a scale by the sizes of the figures.
func placesOfScale(scale, length int64) []impl.Interval {
	var places []impl.Interval
	for _, f := range figuresOfScale(scale) {
		places = append(places, definedPlace(scale, f, length))
	}
	return places
}

// somePoints are both ends and some points between, near to each other and far apart.
func somePoints(length int64) []int64 {
	points := []int64{0, length}
	for i := range int64(12) {
		points = append(points, i, length-i, length*i/12, length*i/12+i)
	}
	points = slices.DeleteFunc(points, func(p int64) bool { return p < 0 || p > length })
	slices.Sort(points)
	return slices.Compact(points)
}

func isNear(place impl.Interval, point, eye int64) bool {
	return place.Low-eye <= point && point <= place.High+eye
}

func definedCount(scale, length, point, eye int64) int64 {
	count := int64(0)
	for _, place := range placesOfScale(scale, length) {
		if isNear(place, point, eye) {
			count++
		}
	}
	return count
}

// checkReadings compares all readings of a point with their definitions.
func checkReadings(t *testing.T, scale, length, point, eye int64, places []impl.Interval) {
	t.Helper()
	figures, name := figuresOfScale(scale), "of "+scaleNames[scale]
	first, last, best, count := none, none, none, int64(0)
	least := int64(math.MaxInt64)
	for i, f := range figures {
		if isNear(places[i], point, eye) {
			if count == 0 {
				first = f
			}
			last = f
			count++
		}
		off := max(places[i].Low+places[i].High-2*point, 2*point-places[i].Low-places[i].High)
		if off < least {
			least, best = off, f
		}
	}
	code := int64(impl.ErrNone)
	if count == 0 {
		code = impl.ErrNotFound
	}
	checkFigure(t, "FirstReading "+name, first, code)(impl.FirstReading(scale, length, point, eye))
	checkFigure(t, "LastReading "+name, last, code)(impl.LastReading(scale, length, point, eye))
	checkNumber(t, "CountReadings "+name, count, impl.ErrNone)(impl.CountReadings(scale, length, point, eye))
	checkFigure(t, "BestReading "+name, best, impl.ErrNone)(impl.BestReading(scale, length, point))
	millionths, code := definedReadError(first, last, code)
	checkNumber(t, "ReadError "+name, millionths, code)(impl.ReadError(scale, length, point, eye))
}

// definedReadError expects figures with Tens of at least 0, and the code of the readings.
func definedReadError(first, last impl.Figure, code int64) (int64, int64) {
	if code != impl.ErrNone {
		return 0, code
	}
	a, b := last.Digits, first.Digits
	for range last.Tens - first.Tens {
		a *= 10
	}
	millionths := ((a-b)*1000000 + b - 1) / b
	if millionths > 9000000 {
		return 0, impl.ErrLimit
	}
	return millionths, impl.ErrNone
}

// definedNeeded expects a scale, parts and Tens in their ranges.
func definedNeeded(scale int64, f impl.Figure, eye, parts int64) (int64, int64) {
	unit := []int64{1000, 100, 10, 1}[parts-1]
	digits := (f.Digits + unit/2) / unit * unit
	if digits+unit > 9999 {
		return 0, impl.ErrRange
	}
	left, right := definedPosition(scale, figure(digits, f.Tens)), definedPosition(scale, figure(digits+unit, f.Tens))
	if left.Low > right.Low {
		left, right = right, left
	}
	for length := int64(100); length <= maxLength; length += 100 {
		if int64(math.Floor(float64(right.Low*length)/float64(decade))) >= int64(math.Ceil(float64(left.High*length)/float64(decade)))+eye {
			return length, impl.ErrNone
		}
	}
	return 0, impl.ErrNotFound
}

func checkNeeded(t *testing.T, scale int64, f impl.Figure, eye, parts int64) {
	t.Helper()
	want, code := definedNeeded(scale, f, eye, parts)
	checkNumber(t, "NeededLength of "+scaleNames[scale], want, code)(impl.NeededLength(scale, f, eye, parts))
}

// checkEndsOfEye tries the last points where a figure may be, and the next ones.
func checkEndsOfEye(t *testing.T, scale int64, f impl.Figure, length, eye int64) {
	t.Helper()
	place := definedPlace(scale, f, length)
	for _, point := range []int64{place.Low - eye - 1, place.Low - eye, place.High, place.High + eye, place.High + eye + 1, 0, length} {
		if point < 0 || point > length {
			checkMayBeAt(t, false, impl.ErrRange)(impl.MayBeAt(scale, f, length, point, eye))
			continue
		}
		checkMayBeAt(t, isNear(place, point, eye), impl.ErrNone)(impl.MayBeAt(scale, f, length, point, eye))
	}
}

func checkAmongReadings(t *testing.T, scale int64, f impl.Figure, length, point, eye int64) {
	t.Helper()
	first, one := impl.FirstReading(scale, length, point, eye)
	last, two := impl.LastReading(scale, length, point, eye)
	count, three := impl.CountReadings(scale, length, point, eye)
	low, _ := impl.CompareFigures(first, f)
	high, _ := impl.CompareFigures(f, last)
	if one != impl.ErrNone || two != impl.ErrNone || three != impl.ErrNone || low > 0 || high > 0 || count < 1 {
		t.Errorf("%v is not among the %d readings from %v to %v of %d on scale %d", f, count, first, last, point, scale)
	}
}

// checkReadingErrors expects arguments of which one is out of range.
func checkReadingErrors(t *testing.T, scale, length, point, eye int64) {
	t.Helper()
	checkMayBeAtCode(t, scale, length, point, eye, impl.ErrRange)
	checkFigure(t, "FirstReading", none, impl.ErrRange)(impl.FirstReading(scale, length, point, eye))
	checkFigure(t, "LastReading", none, impl.ErrRange)(impl.LastReading(scale, length, point, eye))
	checkNumber(t, "CountReadings", 0, impl.ErrRange)(impl.CountReadings(scale, length, point, eye))
	checkNumber(t, "ReadError", 0, impl.ErrRange)(impl.ReadError(scale, length, point, eye))
}

func checkMayBeAtCode(t *testing.T, scale, length, point, eye, want int64) {
	t.Helper()
	for _, f := range []impl.Figure{figure(1000, 0), figure(2001, 0), figure(9999, 0)} {
		if ok, code := impl.MayBeAt(scale, f, length, point, eye); code != want || ok && code != impl.ErrNone {
			t.Errorf("MayBeAt(%d, %v, %d, %d, %d) = %v, %d", scale, f, length, point, eye, ok, code)
		}
	}
}

// checkMayBeAt takes the results of the function directly.
func checkMayBeAt(t *testing.T, want bool, wantCode int64) func(bool, int64) {
	t.Helper()
	return func(got bool, code int64) {
		t.Helper()
		if got != want || code != wantCode {
			t.Errorf("MayBeAt: %v, %d; want %v, %d", got, code, want, wantCode)
		}
	}
}

// checkNumber takes the results of a function directly.
func checkNumber(t *testing.T, name string, want, wantCode int64) func(int64, int64) {
	t.Helper()
	return func(got, code int64) {
		t.Helper()
		if got != want || code != wantCode {
			t.Errorf("%s: %d, %d; want %d, %d", name, got, code, want, wantCode)
		}
	}
}
