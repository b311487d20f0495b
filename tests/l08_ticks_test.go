package tests

import (
	"math"
	"slices"
	"strconv"
	"testing"

	"loop.example/g00951/impl"
)

const maxTicks = impl.MaxTicks

var (
	thousands = parts(1000, 1000)
	usual     = parts(1000, 20, 2000, 50, 5000, 100)

	// These are just beyond and far beyond both bounds.
	noHeights   = append([]int64{-1, 5, -2, 6, -4, 1 << 32, limit, -limit}, noValues...)
	noDistances = append([]int64{-1, maxLength + 1, -2, maxLength + 2, -maxLength, 1 << 32, limit, -limit}, noValues...)
)

// tick takes Mark, Place and Height.
func tick(mark, place, height int64) impl.Tick {
	return impl.Tick{Mark: mark, Place: place, Height: height}
}

// ticksAt have other marks and heights than the numbers that stand there.
func ticksAt(places ...int64) []impl.Tick {
	ticks := make([]impl.Tick, len(places))
	for i, place := range places {
		ticks[i] = tick(7, place, int64(i%5))
	}
	return ticks
}

// ticksLike takes Place and Height of each tick.
func ticksLike(numbers ...int64) []impl.Tick {
	var ticks []impl.Tick
	for i := 0; i < len(numbers); i += 2 {
		ticks = append(ticks, tick(int64(i), numbers[i], numbers[i+1]))
	}
	return ticks
}

// manyTicks stand far apart, from left to right.
func manyTicks(count int) []impl.Tick {
	ticks := make([]impl.Tick, count)
	for i := range ticks {
		ticks[i] = tick(1000, int64(i)*10, int64(i*i%5))
	}
	return ticks
}

// randomNumbers are at least 0, and less than their argument.
func randomNumbers(seed uint64) func(int64) int64 {
	return func(n int64) int64 {
		seed = seed*6364136223846793005 + 1442695040888963407
		return int64(seed>>33) % n
	}
}

// someTicks are lists of 0 to 150 ticks in any order, crowded or far apart, with places of both
// signs up to the limits.
func someTicks() [][]impl.Tick {
	list := [][]impl.Tick{nil, {}, manyTicks(maxTicks), make([]impl.Tick, maxTicks)}
	next := randomNumbers(8)
	for _, width := range []int64{1, 2, 3, 10, 50, 400, 3000, 25000, maxLength, 1 << 30} {
		for _, count := range []int{1, 2, 3, 4, 5, 8, 13, 40, 100, 149, maxTicks} {
			ticks := make([]impl.Tick, count)
			for i := range ticks {
				ticks[i] = tick(1000+next(9000), next(2*width)-width, next(5))
			}
			list = append(list, ticks)
		}
	}
	for _, place := range []int64{limit, -limit} {
		list = append(list, ticksAt(place), ticksAt(place, place), ticksAt(place, -place), ticksAt(place, 0, -place), ticksAt(place, place-place/limit, 0))
	}
	return list
}

func TestConstantsOfChapter8(t *testing.T) {
	if maxTicks != 150 {
		t.Error("MaxTicks", maxTicks)
	}
}

func TestTickHeightExamples(t *testing.T) {
	cases := map[int64]int64{
		1000: 4, 2000: 4, 5000: 4, 9000: 4,
		1500: 3, 2500: 3, 9500: 3,
		1100: 2, 1400: 2, 1600: 2, 2100: 2, 9900: 2,
		1050: 1, 1250: 1, 1450: 1, 1550: 1, 9950: 1, 3050: 1,
		1001: 0, 1010: 0, 1025: 0, 1020: 0, 1049: 0, 1051: 0, 1499: 0, 1501: 0, 1999: 0, 2001: 0, 3142: 0, 9975: 0, 9999: 0, 1005: 0, 1225: 0,
	}
	for n, want := range cases {
		checkNumber(t, "TickHeight of "+strconv.FormatInt(n, 10), want, impl.ErrNone)(impl.TickHeight(n))
	}
}

func TestTickHeightsFollowTheirDefinition(t *testing.T) {
	for n := int64(1000); n <= 9999; n++ {
		checkNumber(t, "TickHeight of "+strconv.FormatInt(n, 10), definedHeight(n), impl.ErrNone)(impl.TickHeight(n))
	}
	for _, n := range noDigits {
		checkNumber(t, "TickHeight of "+strconv.FormatInt(n, 10), 0, impl.ErrRange)(impl.TickHeight(n))
	}
}

func TestTicksOfExamples(t *testing.T) {
	cases := []struct {
		g                       []impl.Part
		scale, length, from, to int64
		want                    []impl.Tick
	}{
		{thousands, impl.ScaleC, 25000, 1000, 3000, []impl.Tick{tick(1000, 0, 4), tick(2000, 7525, 4), tick(3000, 11928, 4)}},
		{thousands, impl.ScaleC, 25000, 1001, 2999, []impl.Tick{tick(2000, 7525, 4)}},
		{thousands, impl.ScaleC, 25000, 8999, 9999, []impl.Tick{tick(9000, 23856, 4)}},
		{thousands, impl.ScaleC, 25000, 9000, 9000, []impl.Tick{tick(9000, 23856, 4)}},
		{thousands, impl.ScaleC, 25000, 9001, 9999, nil},
		{thousands, impl.ScaleC, 25000, 3000, 2000, nil}, // from is greater than to
		{thousands, impl.ScaleC, 25000, 9999, 1000, nil},
		{parts(1000, 9000), impl.ScaleC, 25000, 1000, 9999, []impl.Tick{tick(1000, 0, 4)}},
		{usual, impl.ScaleC, 25000, 1960, 2100, []impl.Tick{tick(1960, 7306, 0), tick(1980, 7416, 0), tick(2000, 7525, 4), tick(2050, 7793, 1), tick(2100, 8055, 2)}},
		{parts(1000, 500), impl.ScaleL, 9000, 1000, 2500, []impl.Tick{tick(1000, 0, 4), tick(1500, 500, 3), tick(2000, 1000, 4), tick(2500, 1500, 3)}},
		// Half of 66666 and 66667 is rounded down.
		{thousands, impl.ScaleL, maxLength, 7000, 8000, []impl.Tick{tick(7000, 66666, 4), tick(8000, 77777, 4)}},
		{thousands, impl.ScaleA, maxLength, 4000, 4000, []impl.Tick{tick(4000, 30103, 4)}}, // with Tens 0: in the first decade
		{thousands, impl.ScaleK, maxLength, 8000, 8000, []impl.Tick{tick(8000, 30103, 4)}},
		// The marks of ScaleCI stand from right to left.
		{thousands, impl.ScaleCI, 25000, 1000, 3000, []impl.Tick{tick(3000, 13071, 4), tick(2000, 17474, 4), tick(1000, 24999, 4)}},
		{parts(1000, 50), impl.ScaleCI, 25000, 4950, 5100, []impl.Tick{tick(5100, 7310, 2), tick(5050, 7417, 1), tick(5000, 7525, 4), tick(4950, 7634, 1)}},
		// ScaleCF begins again after 3142, which stands at the right end.
		{usual, impl.ScaleCF, 25000, 3000, 3300, []impl.Tick{
			tick(3150, 27, 1), tick(3200, 198, 2), tick(3250, 366, 1), tick(3300, 532, 2), tick(3000, 24497, 4), tick(3050, 24677, 1), tick(3100, 24853, 2)}},
		{parts(1000, 1), impl.ScaleCF, 25000, 3141, 3144, []impl.Tick{tick(3143, 3, 0), tick(3144, 6, 0), tick(3141, 24996, 0), tick(3142, 25000, 0)}},
		// Equal places are ordered by marks, on all scales.
		{thousands, impl.ScaleC, 1, 2000, 4000, []impl.Tick{tick(2000, 0, 4), tick(3000, 0, 4), tick(4000, 0, 4)}},
		{thousands, impl.ScaleCI, 1, 2000, 4000, []impl.Tick{tick(2000, 0, 4), tick(3000, 0, 4), tick(4000, 0, 4)}},
		{thousands, impl.ScaleCI, 3, 1000, 9999, []impl.Tick{
			tick(5000, 0, 4), tick(6000, 0, 4), tick(7000, 0, 4), tick(8000, 0, 4), tick(9000, 0, 4), tick(3000, 1, 4), tick(4000, 1, 4), tick(1000, 2, 4), tick(2000, 2, 4)}},
		{thousands, impl.ScaleCF, 3, 1000, 9999, []impl.Tick{
			tick(4000, 0, 4), tick(5000, 0, 4), tick(6000, 0, 4), tick(1000, 1, 4), tick(7000, 1, 4), tick(8000, 1, 4), tick(9000, 1, 4), tick(2000, 2, 4), tick(3000, 2, 4)}},
	}
	for _, c := range cases {
		checkTicks(t, "TicksOf on "+scaleNames[c.scale], c.want, impl.ErrNone)(impl.TicksOf(c.g, c.scale, c.length, c.from, c.to))
	}
}

func TestTicksOfFollowsItsDefinition(t *testing.T) {
	ranges := [][2]int64{{1000, 9999}, {1000, 1000}, {9999, 9999}, {1000, 1149}, {1000, 1150}, {9850, 9999}, {9849, 9999}, {3100, 3200}, {3142, 3143}, {1999, 2001}, {1500, 4500}, {2001, 1999}, {9999, 1000}}
	for _, scale := range allScales {
		for _, length := range []int64{1, 3, 7, 100, 25000, 65536, maxLength} {
			middles := definedMiddles(scale, length)
			for _, g := range someGraduations() {
				marks := definedMarks(g)
				for _, r := range ranges {
					want, code := definedTicks(marks, middles, r[0], r[1])
					checkTicks(t, "TicksOf on "+scaleNames[scale], want, code)(impl.TicksOf(g, scale, length, r[0], r[1]))
				}
			}
		}
	}
}

func TestTicksStandAtTheTruePlacesOfTheirMarks(t *testing.T) {
	for _, scale := range allScales {
		for _, length := range []int64{1000, 25000, maxLength} {
			for from := int64(1000); from < 9999; from += 4500 {
				ticks, code := impl.TicksOf(parts(1000, 45), scale, length, from, from+4499)
				if len(ticks) != 100 || code != impl.ErrNone {
					t.Errorf("TicksOf on %d: %d ticks, %d", scale, len(ticks), code)
				}
				for _, k := range ticks {
					if off := math.Abs(float64(k.Place) - truePlace(scale, k.Mark)*float64(length)); off > 1.2 {
						t.Errorf("%v is off by %f on scale %d of %d", k, off, scale, length)
					}
				}
			}
		}
	}
}

func TestTicksOfListsAtMostMaxTicks(t *testing.T) {
	cases := []struct {
		g        []impl.Part
		from, to int64 // 150 marks
	}{
		{parts(1000, 1), 1000, 1149}, {parts(1000, 1), 9850, 9999}, {parts(1000, 1), 3100, 3249}, {parts(1000, 60), 1000, 9999}, {parts(1000, 60), 1000, 9940},
		{parts(1000, 10, 2000, 20), 1000, 2980}, {usual, 1000, 8999}, {usual, 1190, 9999},
	}
	for _, c := range cases {
		for _, scale := range allScales {
			ticks, code := impl.TicksOf(c.g, scale, 25000, c.from, c.to)
			if len(ticks) != maxTicks || code != impl.ErrNone {
				t.Errorf("TicksOf(%v, %d, 25000, %d, %d): %d ticks, %d", c.g, scale, c.from, c.to, len(ticks), code)
			}
		}
	}
	tooMany := []struct {
		g        []impl.Part
		from, to int64
	}{
		{parts(1000, 1), 1000, 1150}, {parts(1000, 1), 9849, 9999}, {parts(1000, 1), 3100, 3250}, {parts(1000, 60, 9940, 30), 1000, 9999},
		{parts(1000, 1), 1000, 1199}, // 200 marks, and 201, and more
		{parts(1000, 1), 1000, 1200}, {parts(1000, 1), 1000, 9999}, {parts(1000, 10, 2000, 20), 1000, 3000}, {usual, 1000, 9000}, {usual, 1180, 9999}, {usual, 1000, 9999},
	}
	for _, c := range tooMany {
		for _, scale := range allScales {
			checkTicks(t, "TicksOf", nil, impl.ErrLimit)(impl.TicksOf(c.g, scale, 25000, c.from, c.to))
		}
	}
}

func TestTicksOfErrors(t *testing.T) {
	// Some of these have too many ticks, some none: errors of ranges come first.
	for _, g := range [][]impl.Part{thousands, parts(1000, 1), parts(1000, 9000), usual} {
		for _, r := range [][2]int64{{1000, 9999}, {2000, 2000}, {9999, 1000}, {999, 10000}} {
			for _, scale := range noScales {
				checkTicks(t, "TicksOf", nil, impl.ErrRange)(impl.TicksOf(g, scale, 25000, r[0], r[1]))
				checkTicks(t, "TicksOf", nil, impl.ErrRange)(impl.TicksOf(g, scale, 0, r[0], r[1]))
			}
			for _, scale := range allScales {
				for _, length := range noLengths {
					checkTicks(t, "TicksOf", nil, impl.ErrRange)(impl.TicksOf(g, scale, length, r[0], r[1]))
				}
			}
		}
		for _, n := range noDigits {
			for _, other := range []int64{1000, 5000, 9999, n} {
				for _, scale := range allScales {
					checkTicks(t, "TicksOf", nil, impl.ErrRange)(impl.TicksOf(g, scale, 25000, n, other))
					checkTicks(t, "TicksOf", nil, impl.ErrRange)(impl.TicksOf(g, scale, 25000, other, n))
				}
			}
		}
	}
	for _, g := range noGraduations() {
		for _, scale := range []int64{impl.ScaleC, impl.ScaleL, -1, 6} {
			for _, length := range []int64{1, maxLength, 0, maxLength + 1} {
				for _, n := range []int64{1000, 9999, 999, 10000} {
					checkTicks(t, "TicksOf", nil, impl.ErrInvalid)(impl.TicksOf(g, scale, length, n, 9999))
					checkTicks(t, "TicksOf", nil, impl.ErrInvalid)(impl.TicksOf(g, scale, length, 1000, n))
				}
			}
		}
	}
}

func TestTicksOfAcceptsTheBoundsOfItsArguments(t *testing.T) {
	for _, scale := range allScales {
		for _, length := range []int64{1, maxLength} {
			for _, n := range []int64{1000, 9999} {
				ticks, code := impl.TicksOf(parts(1000, 1), scale, length, n, n)
				if len(ticks) != 1 || code != impl.ErrNone || ticks[0].Mark != n {
					t.Errorf("TicksOf on %d of %d: %v, %d", scale, length, ticks, code)
				}
			}
		}
	}
}

func TestCountHeights(t *testing.T) {
	cases := []struct {
		g    []impl.Part
		want []int64
	}{
		{thousands, []int64{0, 0, 0, 0, 9}},
		{parts(1000, 1), []int64{8820, 90, 72, 9, 9}},
		{parts(1000, 500), []int64{0, 0, 0, 9, 9}},
		{parts(1000, 100), []int64{0, 0, 72, 9, 9}},
		{parts(1000, 50), []int64{0, 90, 72, 9, 9}},
		{parts(1000, 9000), []int64{0, 0, 0, 0, 1}},
		{parts(1000, 4500), []int64{0, 0, 0, 1, 1}},
		{parts(1000, 9, 1009, 8991), []int64{1, 0, 0, 0, 1}},
		{usual, []int64{40, 30, 72, 9, 9}},
	}
	for _, c := range cases {
		checkList(t, "CountHeights", c.want, impl.ErrNone)(impl.CountHeights(c.g))
	}
	for _, g := range someGraduations() {
		counts := make([]int64, 5)
		for _, n := range definedMarks(g) {
			counts[definedHeight(n)]++
		}
		checkList(t, "CountHeights", counts, impl.ErrNone)(impl.CountHeights(g))
	}
	for _, g := range noGraduations() {
		checkList(t, "CountHeights", nil, impl.ErrInvalid)(impl.CountHeights(g))
	}
}

func TestNearestTickExamples(t *testing.T) {
	cases := []struct {
		ticks       []impl.Tick
		point, want int64
	}{
		{ticksAt(5), 5, 0},
		{ticksAt(5), -1000, 0},
		{ticksAt(0, 10, 20), 4, 0},
		{ticksAt(0, 10, 20), 5, 0}, // the first one of two
		{ticksAt(0, 10, 20), 6, 1},
		{ticksAt(0, 10, 20), 15, 1},
		{ticksAt(0, 10, 20), 16, 2},
		{ticksAt(0, 10, 20), 1000, 2},
		{ticksAt(20, 10, 0), 15, 0}, // the first one, not the left one
		{ticksAt(20, 10, 0), 5, 1},
		{ticksAt(20, 10, 0), -5, 2},
		{ticksAt(10, 0, 10, 5, 5), 6, 3},
		{ticksAt(7, 7, 7), 7, 0},
		{ticksAt(0, 8, 6), 7, 1},
		{ticksAt(-20, -10, 10), -16, 0},
		{ticksAt(-20, -10, 10), -15, 0},
		{ticksAt(-20, -10, 10), -14, 1},
		{ticksAt(-20, -10, 10), 0, 1},
		{ticksAt(-20, -10, 10), 1, 2},
		{ticksAt(-limit, limit), 0, 0},
		{ticksAt(-limit, limit), 1, 1},
		{ticksAt(-limit, limit), limit, 1},
		{ticksAt(limit, -limit), -limit, 1},
		{ticksAt(limit, limit-1), -limit, 1},
		{manyTicks(maxTicks), 1490, 149},
		{manyTicks(maxTicks), limit, 149},
		{manyTicks(maxTicks), 1485, 148},
		{manyTicks(maxTicks), 0, 0},
	}
	for _, c := range cases {
		checkNumber(t, "NearestTick of "+strconv.FormatInt(c.point, 10), c.want, impl.ErrNone)(impl.NearestTick(c.ticks, c.point))
	}
}

func TestTicksBetweenExamples(t *testing.T) {
	cases := []struct {
		ticks          []impl.Tick
		from, to, want int64
	}{
		{nil, 0, 10, 0}, // not an error
		{[]impl.Tick{}, -limit, limit, 0},
		{ticksAt(0, 10, 20), 0, 20, 3},
		{ticksAt(0, 10, 20), 1, 20, 2},
		{ticksAt(0, 10, 20), 0, 19, 2},
		{ticksAt(0, 10, 20), 1, 19, 1},
		{ticksAt(0, 10, 20), 10, 10, 1},
		{ticksAt(0, 10, 20), 11, 19, 0},
		{ticksAt(0, 10, 20), 20, 0, 0}, // from is greater than to
		{ticksAt(0, 10, 20), 11, 10, 0},
		{ticksAt(20, 0, 10, 10, 10), 10, 19, 3},
		{ticksAt(-20, -10, 10), -10, 9, 1},
		{ticksAt(-20, -10, 10), -20, -11, 1},
		{ticksAt(-limit, 0, limit), -limit, limit, 3},
		{ticksAt(-limit, 0, limit), 1 - limit, limit - 1, 1},
		{ticksAt(-limit, 0, limit), limit, limit, 1},
		{ticksAt(-limit, 0, limit), -limit, -limit, 1},
		{manyTicks(maxTicks), 0, 1490, 150},
		{manyTicks(maxTicks), 1, 1489, 148},
	}
	for _, c := range cases {
		checkNumber(t, "TicksBetween", c.want, impl.ErrNone)(impl.TicksBetween(c.ticks, c.from, c.to))
	}
}

func TestClosestTicksExamples(t *testing.T) {
	cases := []struct {
		ticks         []impl.Tick
		first, second int64
	}{
		{ticksAt(0, 10), 0, 1},
		{ticksAt(10, 0), 0, 1},
		{ticksAt(5, 5), 0, 1},
		{ticksAt(0, 10, 15), 1, 2},
		{ticksAt(15, 10, 0), 0, 1},
		{ticksAt(0, 15, 10), 1, 2},
		{ticksAt(10, 0, 15), 0, 2}, // not beside each other in the list
		{ticksAt(15, 0, 10), 0, 2},
		{ticksAt(0, 10, 20), 0, 1}, // the smallest pair of several
		{ticksAt(20, 10, 0), 0, 1},
		{ticksAt(0, 20, 10), 0, 2},
		{ticksAt(10, 0, 20), 0, 1},
		{ticksAt(0, 100, 50, 101, 1), 0, 4}, // (0, 4) and (1, 3) differ by 1: the first index decides
		{ticksAt(100, 0, 1, 101), 0, 3},
		{ticksAt(0, 50, 51, 49), 1, 2}, // (1, 2) and (1, 3) differ by 1: the second index decides
		{ticksAt(0, 7, 3, 7, 3), 1, 3}, // equal places differ by 0
		{ticksAt(-limit, limit), 0, 1},
		{ticksAt(limit, -limit, 0), 0, 2},
		{ticksAt(-limit, limit, 1-limit), 0, 2},
		{ticksAt(-5, 6, 1, -9), 0, 3}, // -5 and -9, not 5 and 6
		{manyTicks(maxTicks), 0, 1},
		{append(manyTicks(maxTicks-1), tick(1, 1479, 0)), 148, 149},
		{append(manyTicks(maxTicks-1), tick(1, 741, 0)), 74, 149},
	}
	for _, c := range cases {
		checkPair(t, c.first, c.second, impl.ErrNone)(impl.ClosestTicks(c.ticks))
	}
}

func TestKeepApartExamples(t *testing.T) {
	ruler, _ := impl.TicksOf(thousands, impl.ScaleC, 25000, 1000, 9999)
	cases := []struct {
		ticks    []impl.Tick
		distance int64
		want     []int64
	}{
		{nil, 0, nil},
		{[]impl.Tick{}, maxLength, nil},
		{ticksLike(5, 0), maxLength, []int64{0}},
		{ticksLike(0, 0, 10, 0), 10, []int64{0, 1}}, // exactly the distance
		{ticksLike(0, 0, 10, 0), 11, []int64{0}},
		{ticksLike(10, 0, 0, 0), 10, []int64{0, 1}},
		{ticksLike(10, 0, 0, 0), 11, []int64{0}},
		{ticksLike(0, 0, 10, 1), 11, []int64{1}}, // the greater height goes first
		{ticksLike(0, 1, 10, 0), 11, []int64{0}},
		{ticksLike(7, 2, 7, 2, 7, 2), 0, []int64{0, 1, 2}}, // nothing is closer than 0
		{ticksLike(7, 2, 7, 2, 7, 3), 1, []int64{2}},
		{ticksLike(7, 2, 7, 2, 7, 2), 1, []int64{0}},
		// Only ticks that have been kept count: the one in the middle is too near to the first one.
		{ticksLike(0, 0, 6, 0, 12, 0), 10, []int64{0, 2}},
		{ticksLike(0, 0, 6, 1, 12, 0), 10, []int64{1}},
		{ticksLike(0, 2, 6, 1, 12, 0), 10, []int64{0, 2}},
		{ticksLike(12, 0, 6, 0, 0, 0), 10, []int64{0, 2}},
		{ticksLike(0, 0, 5, 1, 10, 2, 15, 3, 20, 4), 10, []int64{0, 2, 4}},
		{ticksLike(0, 4, 5, 3, 10, 2, 15, 1, 20, 0), 10, []int64{0, 2, 4}},
		{ticksLike(0, 0, 5, 1, 10, 2, 15, 3, 20, 4), 11, []int64{1, 4}},
		{ticksLike(0, 1, 5, 4, 10, 1, 15, 1, 20, 3), 6, []int64{1, 4}},
		{ticksLike(20, 0, 0, 3, 10, 4, 40, 1, 31, 2), 10, []int64{0, 1, 2, 4}}, // in the order of indices, not of heights
		{ticksLike(-5, 0, 5, 0), 10, []int64{0, 1}},
		{ticksLike(-5, 0, 5, 0), 11, []int64{0}},
		{ticksLike(-limit, 0, limit, 0), maxLength, []int64{0, 1}},
		{ticksLike(limit, 0, limit-maxLength, 4, -limit, 1, maxLength-limit, 1), maxLength, []int64{0, 1, 2, 3}},
		{ticksLike(limit, 0, limit-maxLength+1, 4, -limit, 1, maxLength-limit-1, 1), maxLength, []int64{1, 2}},
		{ruler, 2000, []int64{0, 1, 2, 3, 4, 6, 8}},
		{ruler, 1279, []int64{0, 1, 2, 3, 4, 5, 6, 7, 8}},
		{ruler, 1280, []int64{0, 1, 2, 3, 4, 5, 6, 7}},
		{ruler, 0, []int64{0, 1, 2, 3, 4, 5, 6, 7, 8}},
		{ruler, maxLength, []int64{0}},
	}
	for _, c := range cases {
		checkList(t, "KeepApart", c.want, impl.ErrNone)(impl.KeepApart(c.ticks, c.distance))
	}
}

func TestListsOfTicksFollowTheDefinitions(t *testing.T) {
	for _, ticks := range someTicks() {
		points := []int64{-limit, -maxLength, -25, -2, -1, 0, 1, 2, 3, 26, 500, 12345, maxLength, limit}
		for i, k := range ticks {
			if i < 20 {
				points = append(points, k.Place, min(k.Place+1, limit), max(k.Place-1, -limit))
			}
		}
		for i, point := range points {
			want, code := definedNearest(ticks, point)
			checkNumber(t, "NearestTick", want, code)(impl.NearestTick(ticks, point))
			for _, to := range points[i/2:] {
				checkNumber(t, "TicksBetween", definedBetween(ticks, point, to), impl.ErrNone)(impl.TicksBetween(ticks, point, to))
			}
		}
		first, second, code := definedClosest(ticks)
		checkPair(t, first, second, code)(impl.ClosestTicks(ticks))
	}
}

// Promise 8: ticks that stay are never closer than the distance, and each other one is closer to
// one that stays.

func TestTicksThatStayAreNeverCloserThanTheDistance(t *testing.T) {
	for _, ticks := range someTicks() {
		for _, distance := range []int64{0, 1, 2, 3, 5, 9, 10, 11, 20, 57, 100, 333, 1000, 5000, 20000, 99999, maxLength} {
			checkKept(t, ticks, distance)
		}
	}
}

func TestTicksOfRulesThatStayAreNeverCloserThanTheDistance(t *testing.T) {
	for _, scale := range allScales {
		for _, length := range []int64{1, 50, 2500, 25000, maxLength} {
			for _, g := range [][]impl.Part{thousands, parts(1000, 100), parts(1000, 60), usual, parts(1000, 1)} {
				for _, from := range []int64{1000, 1190, 3100} {
					ticks, code := impl.TicksOf(g, scale, length, from, min(from+7000, 9999))
					if code == impl.ErrLimit {
						ticks, code = impl.TicksOf(g, scale, length, from, from+149)
					}
					if code != impl.ErrNone {
						t.Errorf("TicksOf(%v, %d, %d, %d): %d", g, scale, length, from, code)
					}
					for _, distance := range []int64{0, 1, 2, 20, 100, 150, 300, 1000, 30000, maxLength} {
						checkKept(t, ticks, distance)
					}
					first, second, code := definedClosest(ticks)
					checkPair(t, first, second, code)(impl.ClosestTicks(ticks))
				}
			}
		}
	}
}

// All places and heights of up to four ticks of a small rule are tried.
func TestKeepApartOfAllSmallLists(t *testing.T) {
	const places, heights = 4, 3
	for count := range 5 {
		total := 1
		for range count {
			total *= places * heights
		}
		for number := range total {
			ticks, rest := make([]impl.Tick, count), number
			for i := range ticks {
				ticks[i] = tick(1000, int64(rest%places), int64(rest/places%heights)+int64(number%3))
				rest /= places * heights
			}
			for distance := range int64(places + 1) {
				checkList(t, "KeepApart", definedKept(ticks, distance), impl.ErrNone)(impl.KeepApart(ticks, distance))
			}
		}
	}
}

func TestListsWithTooManyTicks(t *testing.T) {
	for _, count := range []int{maxTicks + 1, maxTicks + 2, 2 * maxTicks, 5000} {
		ticks := manyTicks(count)
		checkTickErrors(t, ticks, impl.ErrLimit)
		// This comes before errors of ranges, wherever they are.
		for _, i := range []int{0, maxTicks - 1, maxTicks, count - 1} {
			for _, place := range noValues {
				spoilt := slices.Clone(ticks)
				spoilt[i].Place, spoilt[i].Height = place, 5
				checkTickErrors(t, spoilt, impl.ErrLimit)
			}
		}
		for _, n := range noValues {
			checkNumber(t, "NearestTick", 0, impl.ErrLimit)(impl.NearestTick(ticks, n))
			checkNumber(t, "TicksBetween", 0, impl.ErrLimit)(impl.TicksBetween(ticks, n, 0))
			checkNumber(t, "TicksBetween", 0, impl.ErrLimit)(impl.TicksBetween(ticks, 0, n))
			checkList(t, "KeepApart", nil, impl.ErrLimit)(impl.KeepApart(ticks, n))
		}
	}
}

func TestTicksAtPlacesThatAreNoValues(t *testing.T) {
	for _, place := range noValues {
		for _, count := range []int{1, 2, 3, maxTicks} {
			for _, i := range []int{0, count / 2, count - 1} {
				ticks := manyTicks(count)
				ticks[i].Place = place
				checkTickErrors(t, ticks, impl.ErrRange)
			}
		}
	}
}

func TestPointsThatAreNoValues(t *testing.T) {
	for _, n := range noValues {
		// With no tick too, which would be ErrNotFound for NearestTick.
		for _, ticks := range [][]impl.Tick{nil, {}, ticksAt(5), ticksAt(n), manyTicks(maxTicks)} {
			checkNumber(t, "NearestTick", 0, impl.ErrRange)(impl.NearestTick(ticks, n))
			for _, other := range []int64{0, limit, -limit, n} {
				checkNumber(t, "TicksBetween", 0, impl.ErrRange)(impl.TicksBetween(ticks, n, other))
				checkNumber(t, "TicksBetween", 0, impl.ErrRange)(impl.TicksBetween(ticks, other, n))
			}
		}
	}
}

func TestListsWithTooFewTicks(t *testing.T) {
	for _, ticks := range [][]impl.Tick{nil, {}} {
		for _, point := range []int64{0, 5, limit, -limit} {
			checkNumber(t, "NearestTick", 0, impl.ErrNotFound)(impl.NearestTick(ticks, point))
		}
		checkPair(t, 0, 0, impl.ErrNotFound)(impl.ClosestTicks(ticks))
	}
	for _, place := range []int64{0, 5, limit, -limit} {
		checkPair(t, 0, 0, impl.ErrNotFound)(impl.ClosestTicks(ticksAt(place)))
		checkPair(t, 0, 0, impl.ErrRange)(impl.ClosestTicks(ticksAt(noValues[0])))
	}
}

func TestKeepApartErrors(t *testing.T) {
	for _, ticks := range [][]impl.Tick{nil, {}, ticksAt(5), ticksAt(noValues[0]), manyTicks(maxTicks)} {
		for _, distance := range noDistances {
			checkList(t, "KeepApart", nil, impl.ErrRange)(impl.KeepApart(ticks, distance))
		}
	}
	for _, height := range noHeights {
		for _, count := range []int{1, 2, maxTicks} {
			for _, i := range []int{0, count / 2, count - 1} {
				ticks := manyTicks(count)
				ticks[i].Height = height
				for _, distance := range []int64{0, 10, maxLength, -1} {
					checkList(t, "KeepApart", nil, impl.ErrRange)(impl.KeepApart(ticks, distance))
				}
			}
		}
	}
	for height := range int64(5) {
		checkList(t, "KeepApart", []int64{0, 1}, impl.ErrNone)(impl.KeepApart(ticksLike(0, height, maxLength, height), maxLength))
		checkList(t, "KeepApart", []int64{0}, impl.ErrNone)(impl.KeepApart(ticksLike(0, height, maxLength-1, height), maxLength))
	}
}

// Only Place counts for these functions, and Height too for KeepApart.
func TestOtherFieldsOfTicksAreNotChecked(t *testing.T) {
	for _, n := range append([]int64{-1, 0, 999, 10000}, noHeights...) {
		ticks := []impl.Tick{tick(n, 0, n), tick(n, 10, n), tick(n, 12, n)}
		checkNumber(t, "NearestTick", 1, impl.ErrNone)(impl.NearestTick(ticks, 11))
		checkNumber(t, "TicksBetween", 2, impl.ErrNone)(impl.TicksBetween(ticks, 10, 12))
		checkPair(t, 1, 2, impl.ErrNone)(impl.ClosestTicks(ticks))
		checkList(t, "KeepApart", []int64{0, 1}, impl.ErrNone)(impl.KeepApart([]impl.Tick{tick(n, 0, 0), tick(n, 10, 0), tick(n, 12, 0)}, 10))
	}
}

func TestTicksShareNoMemory(t *testing.T) {
	g, places := parts(1000, 20, 2000, 50, 5000, 100, 6000, 100), []int64{30, 10, 20, 35, 0, 77, 88}
	backing := ticksAt(places...)
	ticks, kept := backing[:5], slices.Clone(backing)
	for _, spoil := range []func(){
		func() { list, _ := impl.TicksOf(g, impl.ScaleCI, 25000, 1000, 2000); spoilTicks(list) },
		func() { list, _ := impl.CountHeights(g); spoilList(list) },
		func() { list, _ := impl.KeepApart(ticks, 10); spoilList(list) },
		func() { impl.NearestTick(ticks, 3); impl.TicksBetween(ticks, 3, 30); impl.ClosestTicks(ticks) },
	} {
		spoil()
		checkTicks(t, "TicksOf", []impl.Tick{tick(2000, 17474, 4), tick(1980, 17583, 0)}, impl.ErrNone)(impl.TicksOf(g, impl.ScaleCI, 25000, 1980, 2000))
		checkList(t, "CountHeights", []int64{40, 30, 72, 9, 9}, impl.ErrNone)(impl.CountHeights(g))
		checkList(t, "KeepApart", []int64{1, 2, 3, 4}, impl.ErrNone)(impl.KeepApart(ticks, 10))
		checkNumber(t, "TickHeight", 2, impl.ErrNone)(impl.TickHeight(1100))
	}
	if !slices.Equal(backing, kept) || !slices.Equal(g, parts(1000, 20, 2000, 50, 5000, 100, 6000, 100)) {
		t.Error("an argument has been changed:", backing, g)
	}
}

func spoilTicks(ticks []impl.Tick) {
	for i := range ticks {
		ticks[i] = tick(-1, -2, -3)
	}
	_ = append(ticks[:1], tick(-4, -5, -6), tick(-7, -8, -9))
}

func definedHeight(n int64) int64 {
	for i, step := range []int64{1000, 500, 100, 50} {
		if n/step*step == n {
			return int64(4 - i)
		}
	}
	return 0
}

// definedTicks takes the middles of the places of all numbers from 1000 on.
func definedTicks(marks, middles []int64, from, to int64) ([]impl.Tick, int64) {
	var ticks []impl.Tick
	for _, n := range marks {
		if n >= from && n <= to {
			ticks = append(ticks, tick(n, middles[n-1000], definedHeight(n)))
		}
	}
	if len(ticks) > 150 {
		return nil, impl.ErrLimit
	}
	slices.SortFunc(ticks, func(a, b impl.Tick) int {
		if a.Place != b.Place {
			return int(a.Place - b.Place)
		}
		return int(a.Mark - b.Mark)
	})
	return ticks, impl.ErrNone
}

// truePlace is a part of the length of the scale.
func truePlace(scale, n int64) float64 {
	log := math.Log10(float64(n) / 1000)
	switch scale {
	case impl.ScaleCI:
		return 1 - log
	case impl.ScaleCF:
		if n <= fold {
			log++
		}
		return log - math.Log10(3.142)
	case impl.ScaleL:
		return float64(n-1000) / 9000
	}
	return log / float64(allDecades[scale])
}

func apart(a, b int64) int64 { return max(a, b) - min(a, b) }

// definedNearest looks for the first one of the least distances.
func definedNearest(ticks []impl.Tick, point int64) (int64, int64) {
	var distances []int64
	for _, k := range ticks {
		distances = append(distances, apart(k.Place, point))
	}
	if len(distances) == 0 {
		return 0, impl.ErrNotFound
	}
	return int64(slices.Index(distances, slices.Min(distances))), impl.ErrNone
}

func definedBetween(ticks []impl.Tick, from, to int64) int64 {
	count := int64(len(ticks))
	for _, k := range ticks {
		if k.Place < from || k.Place > to {
			count--
		}
	}
	return count
}

// definedClosest compares all pairs by their distances, and by their indices for equal ones.
func definedClosest(ticks []impl.Tick) (int64, int64, int64) {
	var best []int64
	for j := range ticks {
		for i := range j {
			pair := []int64{apart(ticks[i].Place, ticks[j].Place), int64(i), int64(j)}
			if best == nil || slices.Compare(pair, best) < 0 {
				best = pair
			}
		}
	}
	if best == nil {
		return 0, 0, impl.ErrNotFound
	}
	return best[1], best[2], impl.ErrNone
}

func definedKept(ticks []impl.Tick, distance int64) []int64 {
	return definedHighest(ticks, func(a, b impl.Tick) bool { return apart(a.Place, b.Place) < distance })
}

// definedHighest looks at all ticks once for each height.
func definedHighest(ticks []impl.Tick, areNear func(a, b impl.Tick) bool) []int64 {
	var stay []int64
	for _, height := range []int64{4, 3, 2, 1, 0} {
		for i, k := range ticks {
			near := slices.ContainsFunc(stay, func(j int64) bool { return areNear(ticks[j], k) })
			if k.Height == height && !near {
				stay = append(stay, int64(i))
			}
		}
	}
	slices.Sort(stay)
	return stay
}

// checkKept compares the ticks that stay with their definition, and with the guarantee.
func checkKept(t *testing.T, ticks []impl.Tick, distance int64) {
	t.Helper()
	stay, code := impl.KeepApart(ticks, distance)
	checkList(t, "KeepApart", definedKept(ticks, distance), impl.ErrNone)(stay, code)
	for n, i := range stay {
		for _, j := range stay[:n] {
			if j >= i || apart(ticks[i].Place, ticks[j].Place) < distance {
				t.Errorf("%v and %v stay at the distance %d", ticks[j], ticks[i], distance)
			}
		}
	}
	for i, k := range ticks {
		closer := slices.ContainsFunc(stay, func(j int64) bool {
			return apart(ticks[j].Place, k.Place) < distance && ticks[j].Height >= k.Height
		})
		if !closer && !slices.Contains(stay, int64(i)) {
			t.Errorf("%v does not stay at the distance %d", k, distance)
		}
	}
}

// checkTickErrors expects a list with an error that every function finds.
func checkTickErrors(t *testing.T, ticks []impl.Tick, want int64) {
	t.Helper()
	checkNumber(t, "NearestTick", 0, want)(impl.NearestTick(ticks, 7))
	checkNumber(t, "TicksBetween", 0, want)(impl.TicksBetween(ticks, 0, 1000))
	checkPair(t, 0, 0, want)(impl.ClosestTicks(ticks))
	checkList(t, "KeepApart", nil, want)(impl.KeepApart(ticks, 10))
}

// checkTicks takes the results of a function directly.
func checkTicks(t *testing.T, name string, want []impl.Tick, wantCode int64) func([]impl.Tick, int64) {
	t.Helper()
	return func(got []impl.Tick, code int64) {
		t.Helper()
		if !slices.Equal(got, want) || code != wantCode {
			t.Errorf("%s: %v, %d; want %v, %d", name, got, code, want, wantCode)
		}
	}
}

// checkPair takes the results of ClosestTicks directly.
func checkPair(t *testing.T, first, second, wantCode int64) func(int64, int64, int64) {
	t.Helper()
	return func(a, b, code int64) {
		t.Helper()
		if a != first || b != second || code != wantCode {
			t.Errorf("ClosestTicks: %d, %d, %d; want %d, %d, %d", a, b, code, first, second, wantCode)
		}
	}
}
