package tests

import (
	"math"
	"regexp"
	"slices"
	"strconv"
	"strings"
	"testing"

	"loop.example/g00951/impl"
)

const fold = 3142

var (
	usualSteps = []int64{1, 2, 5, 10, 20, 50, 100, 200, 500}

	// These are just beyond and far beyond both bounds of the numbers of a decade.
	noDigits = append([]int64{999, 10000, 998, 10001, 0, 1, -1, -1000, -9999, 1 << 32, limit, -limit}, noValues...)

	noLimits = append([]int64{-1, maxLength + 1, -2, maxLength + 2, -maxLength, 1 << 32, limit, -limit}, noValues...)

	// noBounds is just beyond and far beyond both bounds of the ends of a part.
	noBounds = append([]int64{999, 10001, 998, 10002, 0, 1, -1, -1000, -10000, 1 << 32, limit, -limit}, noValues...)
)

// part takes From, To and Step.
func part(from, to, step int64) impl.Part { return impl.Part{From: from, To: to, Step: step} }

// parts takes From and Step of each part, which ends where the next one begins.
func parts(numbers ...int64) []impl.Part {
	var g []impl.Part
	for i := 0; i < len(numbers); i += 2 {
		to := int64(10000)
		if i+2 < len(numbers) {
			to = numbers[i+2]
		}
		g = append(g, part(numbers[i], to, numbers[i+1]))
	}
	return g
}

// someGraduations have 1 to 12 parts, and steps from 1 to the whole part.
func someGraduations() [][]impl.Part {
	list := [][]impl.Part{
		parts(1000, 1), parts(1000, 2), parts(1000, 9), parts(1000, 10), parts(1000, 45), parts(1000, 1000), parts(1000, 3000), parts(1000, 4500), parts(1000, 9000),
		parts(1000, 20, 2000, 50, 5000, 100), parts(1000, 1, 2000, 2, 4000, 5), parts(1000, 500, 2000, 1000, 5000, 5000),
		parts(1000, 1, 1001, 8999), parts(1000, 8999, 9999, 1), parts(1000, 4000, 9000, 999, 9999, 1), parts(1000, 1, 1001, 1, 1002, 8998),
		parts(1000, 2142, 3142, 1, 3143, 6857), parts(1000, 2141, 3141, 1, 3142, 6858), parts(1000, 2143, 3143, 1, 3144, 6856),
		parts(1000, 2142, 3142, 6858), parts(1000, 2143, 3143, 6857), parts(1000, 7, 1007, 11, 9994, 2), parts(1000, 100, 9900, 10, 9990, 1),
		parts(1000, 50, 2000, 100, 3000, 125, 4000, 200, 5000, 250, 6000, 500, 7000, 1000, 8000, 10, 9000, 5, 9500, 2, 9800, 1, 9900, 4),
	}
	for count := int64(1); count <= 12; count++ {
		var numbers []int64
		for i := range count {
			width := int64(720)
			if i == count-1 {
				width = 9000 - 720*i
			}
			numbers = append(numbers, 1000+720*i, []int64{1, 2, 3, 5, 8, 9, 10, 15, 16, 40, 60, width}[(5*i+count)%12])
			if step := numbers[len(numbers)-1]; width%step != 0 {
				numbers[len(numbers)-1] = width
			}
		}
		list = append(list, parts(numbers...))
	}
	return list
}

// noGraduations have one thing wrong, or several.
func noGraduations() [][]impl.Part {
	list := [][]impl.Part{
		nil, {}, {{}}, {{}, {}},
		{part(999, 10000, 1)}, {part(1001, 10000, 1)}, {part(0, 10000, 1)}, {part(-1000, 10000, 1)},
		{part(1000, 9999, 1)}, {part(1000, 10001, 1)}, {part(1000, 0, 1)}, {part(1000, 1000, 1)}, {part(1000, 999, 1)}, {part(1000, 100000, 1)},
		{part(10000, 1000, 1)}, {part(10000, 1000, -1)}, {part(1000, 10000, 0)}, {part(1000, 10000, -1)}, {part(1000, 10000, -9000)},
		{part(1000, 10000, 7)}, {part(1000, 10000, 4501)}, {part(1000, 10000, 8999)}, {part(1000, 10000, 9001)}, {part(1000, 10000, 18000)},
		// The parts do not touch, overlap, or are out of order.
		{part(1000, 2000, 1), part(2001, 10000, 1)}, {part(1000, 2000, 1), part(1999, 10000, 1)}, {part(2000, 10000, 1), part(1000, 2000, 1)},
		{part(1000, 10000, 1), part(1000, 10000, 1)}, {part(1000, 10000, 1), part(10000, 10000, 1)}, {part(1000, 1000, 1), part(1000, 10000, 1)},
		{part(1000, 2000, 1), part(2000, 2000, 1), part(2000, 10000, 1)}, {part(1000, 10000, 1), part(10000, 10001, 1)}, {part(1000, 10000, 1), {}},
		{part(1000, 11000, 1), part(11000, 10000, 1)}, {part(1000, 11000, 1), part(11000, 10000, -1)}, {part(1000, 500, 1), part(500, 10000, 1)},
		{part(1000, 500, -1), part(500, 10000, 1)}, {part(1000, 20000, 1), part(20000, 30000, 1)},
		{part(1000, 2000, 0), part(2000, 10000, 1)}, {part(1000, 2000, 1), part(2000, 10000, 0)}, {part(1000, 2000, 3), part(2000, 10000, 1)},
		{part(1000, 2000, 1), part(2000, 10000, 3)}, {part(1000, 2000, 1), part(2000, 9999, 1)}, {part(1000, 2000, 2000), part(2000, 10000, 1)},
		append(thirteenParts()[1:], part(10000, 10001, 1)), thirteenParts(), append(thirteenParts(), part(10000, 10001, 1)), make([]impl.Part, 12), make([]impl.Part, 1000),
	}
	for _, n := range append([]int64{1 << 32, limit, -limit}, noValues...) {
		list = append(list, []impl.Part{part(n, 10000, 1)}, []impl.Part{part(1000, n, 1)}, []impl.Part{part(1000, 10000, n)}, []impl.Part{part(n, n, n)},
			[]impl.Part{part(1000, n, 1), part(n, 10000, 1)}, []impl.Part{part(1000, n, -1), part(n, 10000, -1)}, []impl.Part{part(1000, 2000, 1), part(2000, n, 1)})
	}
	return list
}

// thirteenParts would be valid but for their number.
func thirteenParts() []impl.Part {
	var numbers []int64
	for i := range int64(13) {
		numbers = append(numbers, 1000+100*i, 50)
	}
	return parts(numbers...)
}

func TestConstantsOfChapter7(t *testing.T) {
	if impl.MaxParts != 12 {
		t.Error("MaxParts", impl.MaxParts)
	}
}

func TestIsGraduation(t *testing.T) {
	for _, g := range someGraduations() {
		if !impl.IsGraduation(g) {
			t.Error(g, "is a graduation")
		}
	}
	for _, g := range noGraduations() {
		if impl.IsGraduation(g) {
			t.Error(g, "is no graduation")
		}
	}
}

func TestGraduationsWithOneNumberChanged(t *testing.T) {
	for _, g := range someGraduations() {
		for i := range g {
			for _, change := range []int64{-10000, -1000, -2, -1, 1, 2, 50, 1000, 9000, math.MinInt64} {
				changed := slices.Clone(g)
				changed[i].From += change
				checkIsGraduation(t, changed)
				if i > 0 {
					changed[i-1].To += change
					checkIsGraduation(t, changed)
				}
				changed = slices.Clone(g)
				changed[i].To += change
				checkIsGraduation(t, changed)
				changed = slices.Clone(g)
				changed[i].Step += change
				checkIsGraduation(t, changed)
			}
			checkIsGraduation(t, slices.Delete(slices.Clone(g), i, i+1))
			checkIsGraduation(t, slices.Insert(slices.Clone(g), i, g[i]))
			checkIsGraduation(t, g[i:])
			checkIsGraduation(t, g[:i])
		}
	}
	for step := int64(-9000); step <= 9001; step++ {
		checkIsGraduation(t, parts(1000, step))
		checkIsGraduation(t, parts(1000, 1, 7000, step))
	}
}

func TestMarksOfExamples(t *testing.T) {
	cases := []struct {
		g        []impl.Part
		from, to int64
		want     []int64
	}{
		{parts(1000, 1000), 2000, 4000, []int64{2000, 3000, 4000}},
		{parts(1000, 1000), 1999, 4001, []int64{2000, 3000, 4000}},
		{parts(1000, 1000), 2001, 3999, []int64{3000}},
		{parts(1000, 1000), 1000, 9999, []int64{1000, 2000, 3000, 4000, 5000, 6000, 7000, 8000, 9000}},
		{parts(1000, 1000), 1000, 1000, []int64{1000}},
		{parts(1000, 1000), 9000, 9000, []int64{9000}},
		{parts(1000, 1000), 9001, 9999, nil},
		{parts(1000, 1000), 1001, 1999, nil},
		{parts(1000, 1000), 4000, 2000, nil}, // from is greater than to
		{parts(1000, 1000), 2000, 1999, nil},
		{parts(1000, 1), 9999, 1000, nil},
		{parts(1000, 1), 9998, 9999, []int64{9998, 9999}},
		{parts(1000, 1), 9999, 9999, []int64{9999}},
		{parts(1000, 9000), 1000, 9999, []int64{1000}},
		{parts(1000, 500, 2000, 1000, 5000, 5000), 1000, 9999, []int64{1000, 1500, 2000, 3000, 4000, 5000}},
		{parts(1000, 20, 2000, 50, 5000, 100), 1960, 2100, []int64{1960, 1980, 2000, 2050, 2100}},
		{parts(1000, 20, 2000, 50, 5000, 100), 4900, 5200, []int64{4900, 4950, 5000, 5100, 5200}},
	}
	for _, c := range cases {
		checkList(t, "MarksOf", c.want, impl.ErrNone)(impl.MarksOf(c.g, c.from, c.to))
	}
}

func TestMarksOfFollowsItsDefinition(t *testing.T) {
	ends := []int64{1000, 1001, 1002, 1199, 1200, 1201, 1999, 2000, 2001, 3142, 3143, 4999, 5000, 5100, 8999, 9000, 9800, 9801, 9994, 9998, 9999}
	for _, g := range someGraduations() {
		for _, from := range ends {
			for _, to := range ends {
				checkMarks(t, g, from, to)
			}
		}
	}
}

func TestMarksOfListsAtMost200(t *testing.T) {
	cases := []struct {
		g           []impl.Part
		from, to    int64 // 200 marks
		first, last int64
	}{
		{parts(1000, 1), 1000, 1199, 1000, 1199},
		{parts(1000, 1), 9800, 9999, 9800, 9999},
		{parts(1000, 1), 5001, 5200, 5001, 5200},
		{parts(1000, 5), 1000, 1999, 1000, 1995},
		{parts(1000, 45), 1000, 9999, 1000, 9955},
		{parts(1000, 10, 2000, 20), 1000, 3999, 1000, 3980},
	}
	for _, c := range cases {
		list, code := impl.MarksOf(c.g, c.from, c.to)
		if len(list) != 200 || code != impl.ErrNone || list[0] != c.first || list[199] != c.last {
			t.Errorf("MarksOf(%v, %d, %d) = %v, %d", c.g, c.from, c.to, list, code)
		}
		for _, from := range []int64{c.from - 1, c.from - 5, 1000} {
			for _, to := range []int64{c.to, c.to + 1, c.to + 20, 9999} {
				if from >= 1000 && to <= 9999 {
					checkMarks(t, c.g, from, to)
				}
			}
		}
	}
	checkList(t, "MarksOf", nil, impl.ErrLimit)(impl.MarksOf(parts(1000, 1), 1000, 1200))
	checkList(t, "MarksOf", nil, impl.ErrLimit)(impl.MarksOf(parts(1000, 1), 9799, 9999))
	checkList(t, "MarksOf", nil, impl.ErrLimit)(impl.MarksOf(parts(1000, 1), 1000, 9999))
	checkList(t, "MarksOf", nil, impl.ErrLimit)(impl.MarksOf(parts(1000, 10, 2000, 20), 1000, 4000))
	checkList(t, "MarksOf", nil, impl.ErrLimit)(impl.MarksOf(parts(1000, 45, 9955, 9), 1000, 9964))
}

func TestMarksOfErrors(t *testing.T) {
	for _, n := range noDigits {
		for _, g := range [][]impl.Part{parts(1000, 1), parts(1000, 9000), parts(1000, 20, 2000, 50, 5000, 100)} {
			for _, other := range []int64{1000, 5000, 9999, n} {
				checkList(t, "MarksOf", nil, impl.ErrRange)(impl.MarksOf(g, n, other))
				checkList(t, "MarksOf", nil, impl.ErrRange)(impl.MarksOf(g, other, n))
			}
			checkNumber(t, "NearestMark", 0, impl.ErrRange)(impl.NearestMark(g, n))
		}
	}
	for _, g := range noGraduations() {
		for _, n := range []int64{1000, 5000, 9999, 999, 10000, math.MinInt64, math.MaxInt64} {
			checkList(t, "MarksOf", nil, impl.ErrInvalid)(impl.MarksOf(g, n, 9999))
			checkList(t, "MarksOf", nil, impl.ErrInvalid)(impl.MarksOf(g, 1000, n))
			checkNumber(t, "NearestMark", 0, impl.ErrInvalid)(impl.NearestMark(g, n))
			checkBool(t, "IsMark", false, impl.ErrInvalid)(impl.IsMark(g, n))
		}
		checkNumber(t, "CountMarks", 0, impl.ErrInvalid)(impl.CountMarks(g))
	}
}

func TestCountMarks(t *testing.T) {
	cases := []struct {
		g    []impl.Part
		want int64
	}{
		{parts(1000, 1000), 9}, {parts(1000, 1), 9000}, {parts(1000, 9000), 1}, {parts(1000, 4500), 2}, {parts(1000, 3000), 3},
		{parts(1000, 20, 2000, 50, 5000, 100), 160}, {parts(1000, 1, 1001, 8999), 2}, {parts(1000, 500, 2000, 1000, 5000, 5000), 6},
	}
	for _, c := range cases {
		checkNumber(t, "CountMarks", c.want, impl.ErrNone)(impl.CountMarks(c.g))
	}
	for _, g := range someGraduations() {
		checkNumber(t, "CountMarks", int64(len(definedMarks(g))), impl.ErrNone)(impl.CountMarks(g))
	}
}

func TestIsMark(t *testing.T) {
	for _, g := range someGraduations() {
		marks := definedMarks(g)
		for n := int64(-20); n <= 10020; n++ {
			_, found := slices.BinarySearch(marks, n)
			checkBool(t, "IsMark "+strconv.FormatInt(n, 10), found, impl.ErrNone)(impl.IsMark(g, n))
		}
		// Every integer is either a mark or none.
		for _, n := range append([]int64{11000, 19000, 100000, -1000, -8000, 1 << 32, limit, -limit}, noValues...) {
			checkBool(t, "IsMark", false, impl.ErrNone)(impl.IsMark(g, n))
		}
	}
}

func TestNearestMarkExamples(t *testing.T) {
	cases := []struct {
		g       []impl.Part
		n, want int64
	}{
		{parts(1000, 1000), 2500, 2000}, // the smaller one of two
		{parts(1000, 1000), 2499, 2000},
		{parts(1000, 1000), 2501, 3000},
		{parts(1000, 1000), 1000, 1000},
		{parts(1000, 1000), 1500, 1000},
		{parts(1000, 1000), 1501, 2000},
		{parts(1000, 1000), 9000, 9000},
		{parts(1000, 1000), 9999, 9000}, // 10000 is no mark
		{parts(1000, 9000), 9999, 1000},
		{parts(1000, 9000), 1000, 1000},
		{parts(1000, 4500), 3250, 1000},
		{parts(1000, 4500), 3251, 5500},
		{parts(1000, 1), 9999, 9999},
		{parts(1000, 1), 1000, 1000},
		{parts(1000, 2), 1001, 1000},
		{parts(1000, 2), 9999, 9998},
		{parts(1000, 20, 2000, 50, 5000, 100), 1990, 1980},
		{parts(1000, 20, 2000, 50, 5000, 100), 1991, 2000},
		{parts(1000, 20, 2000, 50, 5000, 100), 2025, 2000},
		{parts(1000, 20, 2000, 50, 5000, 100), 4975, 4950},
		{parts(1000, 20, 2000, 50, 5000, 100), 4976, 5000},
		{parts(1000, 20, 2000, 50, 5000, 100), 5050, 5000},
		{parts(1000, 1000, 2000, 4000, 6000, 4000), 1500, 1000},
		{parts(1000, 1000, 2000, 4000, 6000, 4000), 4000, 2000},
	}
	for _, c := range cases {
		checkNumber(t, "NearestMark of "+strconv.FormatInt(c.n, 10), c.want, impl.ErrNone)(impl.NearestMark(c.g, c.n))
	}
}

func TestNearestMarksFollowTheirDefinition(t *testing.T) {
	for _, g := range someGraduations() {
		marks := definedMarks(g)
		for n := int64(1000); n <= 9999; n += 3 {
			// Of the last mark that is not greater and the first one that is, the nearer one counts.
			above := slices.IndexFunc(marks, func(m int64) bool { return m > n })
			want := marks[len(marks)-1]
			if above > 0 {
				want = marks[above-1]
				if marks[above]-n < n-want {
					want = marks[above]
				}
			}
			checkNumber(t, "NearestMark of "+strconv.FormatInt(n, 10), want, impl.ErrNone)(impl.NearestMark(g, n))
		}
	}
}

func TestLeastDistanceExamples(t *testing.T) {
	cases := []struct {
		g             []impl.Part
		scale, length int64
		want          int64
	}{
		{parts(1000, 1000), impl.ScaleC, 25000, 1279},      // from 8000 to 9000
		{parts(1000, 4500), impl.ScaleC, 25000, 18509},     // from 1000 to 5500
		{parts(1000, 4500), impl.ScaleC, maxLength, 74036}, // half of 74036 and 74037 is rounded down
		{parts(1000, 1000), impl.ScaleA, 25000, 640},       // from 11288.6 to 11928.03, rounded down
		{parts(1000, 1000), impl.ScaleK, 25000, 427},
		{parts(1000, 1000), impl.ScaleCI, 25000, 1279}, // the marks stand from right to left
		{parts(1000, 4500), impl.ScaleCI, 25000, 18509},
		{parts(1000, 1000), impl.ScaleCF, 25000, 1278},
		{parts(1000, 1000), impl.ScaleL, 25000, 2777},
		{parts(1000, 1), impl.ScaleC, maxLength, 4},
		{parts(1000, 1), impl.ScaleL, maxLength, 11},
		{parts(1000, 1000), impl.ScaleC, 1, 0},
		{parts(1000, 1), impl.ScaleC, 25000, 1},
		{parts(1000, 500, 2000, 1000, 5000, 5000), impl.ScaleC, 25000, 2423},
		// The least difference is across the end of a part.
		{parts(1000, 1000, 2000, 7999, 9999, 1), impl.ScaleC, 25000, 7525},
		{parts(1000, 8000, 9000, 999, 9999, 1), impl.ScaleC, 25000, 1142},
		{parts(1000, 1, 1001, 8999), impl.ScaleC, 25000, 10},
		{parts(1000, 20, 2000, 50, 5000, 100), impl.ScaleC, 25000, 109},
		// Beside the place where ScaleCF begins again.
		{parts(1000, 2142, 3142, 1, 3143, 6857), impl.ScaleC, 25000, 3},
		{parts(1000, 2142, 3142, 1, 3143, 6857), impl.ScaleCF, 25000, 12431},
		{parts(1000, 2141, 3141, 1, 3142, 6858), impl.ScaleCF, 25000, 4},
		{parts(1000, 2143, 3143, 1, 3144, 6856), impl.ScaleCF, 25000, 3},
	}
	for _, c := range cases {
		checkNumber(t, "LeastDistance on "+scaleNames[c.scale], c.want, impl.ErrNone)(impl.LeastDistance(c.g, c.scale, c.length))
	}
}

func TestLeastDistancesFollowTheirDefinition(t *testing.T) {
	for _, scale := range allScales {
		for _, length := range someLengths {
			middles := definedMiddles(scale, length)
			for _, g := range someGraduations() {
				want, code := definedLeast(definedMarks(g), scale, middles)
				checkNumber(t, "LeastDistance on "+scaleNames[scale], want, code)(impl.LeastDistance(g, scale, length))
			}
		}
	}
}

func TestGraduationsWithoutDistances(t *testing.T) {
	for _, length := range someLengths {
		for _, scale := range allScales {
			// One mark only.
			checkNumber(t, "LeastDistance", 0, impl.ErrNotFound)(impl.LeastDistance(parts(1000, 9000), scale, length))
			// Two marks with the place between them where ScaleCF begins again.
			for _, g := range [][]impl.Part{parts(1000, 4500), parts(1000, 2143, 3143, 6857), parts(1000, 8999, 9999, 1)} {
				_, code := impl.LeastDistance(g, scale, length)
				if (code == impl.ErrNotFound) != (scale == impl.ScaleCF) || code != impl.ErrNone && code != impl.ErrNotFound {
					t.Errorf("LeastDistance(%v, %d, %d): %d", g, scale, length, code)
				}
			}
			// The second mark is 3142, which stands at the right end with the smaller ones.
			if _, code := impl.LeastDistance(parts(1000, 2142, 3142, 6858), scale, length); code != impl.ErrNone {
				t.Errorf("LeastDistance on %d of %d: %d", scale, length, code)
			}
		}
	}
}

func TestLeastDistanceErrors(t *testing.T) {
	single, many := parts(1000, 9000), parts(1000, 1000)
	for _, g := range [][]impl.Part{single, many} {
		for _, scale := range noScales {
			for _, length := range []int64{1, 25000, maxLength, 0, maxLength + 1} {
				checkNumber(t, "LeastDistance", 0, impl.ErrRange)(impl.LeastDistance(g, scale, length))
			}
		}
		for _, length := range noLengths {
			for _, scale := range allScales {
				checkNumber(t, "LeastDistance", 0, impl.ErrRange)(impl.LeastDistance(g, scale, length))
			}
		}
	}
	for _, g := range noGraduations() {
		for _, scale := range []int64{impl.ScaleC, impl.ScaleL, -1, 6} {
			for _, length := range []int64{1, maxLength, 0, maxLength + 1} {
				checkNumber(t, "LeastDistance", 0, impl.ErrInvalid)(impl.LeastDistance(g, scale, length))
			}
		}
	}
}

func TestFinestStepExamples(t *testing.T) {
	cases := []struct {
		scale, length, from, to, limit int64
		want, code                     int64
	}{
		{impl.ScaleC, 25000, 1000, 2000, 100, 20, impl.ErrNone},
		{impl.ScaleC, 25000, 2000, 5000, 100, 50, impl.ErrNone},
		{impl.ScaleC, 25000, 5000, 10000, 100, 100, impl.ErrNone},
		{impl.ScaleC, 25000, 1000, 10000, 100, 100, impl.ErrNone},
		{impl.ScaleA, 25000, 1000, 2000, 100, 50, impl.ErrNone},
		{impl.ScaleK, 25000, 1000, 2000, 100, 100, impl.ErrNone},
		{impl.ScaleCI, 25000, 1000, 2000, 100, 20, impl.ErrNone},
		{impl.ScaleCF, 25000, 2000, 5000, 100, 50, impl.ErrNone},
		{impl.ScaleL, 25000, 1000, 10000, 100, 50, impl.ErrNone},
		{impl.ScaleC, 25000, 1000, 10000, 0, 1, impl.ErrNone},
		{impl.ScaleC, 1, 1000, 10000, 0, 1, impl.ErrNone},
		{impl.ScaleC, 1, 1000, 10000, 1, 0, impl.ErrNotFound},
		{impl.ScaleC, maxLength, 1000, 10000, 4, 1, impl.ErrNone},
		{impl.ScaleC, maxLength, 1000, 10000, 5, 2, impl.ErrNone},
		// The steps that do not divide are left out: 3 and 1001 are divided by 1, and 25 by 5.
		{impl.ScaleC, 25000, 1000, 1003, 11, 0, impl.ErrNotFound},
		{impl.ScaleC, 25000, 1000, 1003, 10, 1, impl.ErrNone},
		{impl.ScaleC, 25000, 1000, 2001, 10, 0, impl.ErrNotFound},
		{impl.ScaleC, 25000, 1000, 1025, 11, 5, impl.ErrNone},
		{impl.ScaleC, 25000, 1000, 1040, 30, 5, impl.ErrNone},
		{impl.ScaleC, 25000, 1000, 1030, 60, 10, impl.ErrNone}, // not 2 and not 5, which are too near
		// The difference to the end does not count, and one mark has none.
		{impl.ScaleC, 25000, 1000, 1001, maxLength, 1, impl.ErrNone},
		{impl.ScaleC, 25000, 9999, 10000, maxLength, 1, impl.ErrNone},
		{impl.ScaleC, 25000, 1000, 1500, maxLength, 500, impl.ErrNone},
		{impl.ScaleC, 25000, 1000, 1200, maxLength, 200, impl.ErrNone},
		{impl.ScaleC, 25000, 1000, 2000, maxLength, 0, impl.ErrNotFound},
		{impl.ScaleC, 25000, 1000, 2000, 4402, 500, impl.ErrNone},
		{impl.ScaleC, 25000, 1000, 2000, 4403, 0, impl.ErrNotFound},
		{impl.ScaleC, 25000, 1000, 2000, 1278, 200, impl.ErrNone},
		{impl.ScaleC, 25000, 1000, 2000, 1279, 500, impl.ErrNone},
		// Beside the place where ScaleCF begins again.
		{impl.ScaleCF, 25000, 3142, 3144, maxLength, 1, impl.ErrNone},
		{impl.ScaleC, 25000, 3142, 3144, maxLength, 2, impl.ErrNone},
		{impl.ScaleCF, 25000, 3141, 3143, maxLength, 2, impl.ErrNone},
		{impl.ScaleCF, 25000, 3143, 3145, maxLength, 2, impl.ErrNone},
		{impl.ScaleCF, 25000, 2700, 3700, maxLength, 500, impl.ErrNone},
		{impl.ScaleCF, 25000, 1000, 2000, maxLength, 0, impl.ErrNotFound},
	}
	for _, c := range cases {
		checkNumber(t, "FinestStep on "+scaleNames[c.scale], c.want, c.code)(impl.FinestStep(c.scale, c.length, c.from, c.to, c.limit))
	}
}

func TestFinestStepsFollowTheirDefinition(t *testing.T) {
	ends := []int64{1000, 1001, 1500, 2000, 2642, 3141, 3142, 3143, 3144, 3145, 3642, 5000, 9999, 10000}
	for _, scale := range allScales {
		for _, length := range []int64{1, 25000, maxLength} {
			middles := definedMiddles(scale, length)
			for i, from := range ends {
				for _, to := range ends[i+1:] {
					checkFinest(t, scale, length, from, to, middles)
				}
			}
		}
	}
}

func TestFinestStepErrors(t *testing.T) {
	// The other arguments have a finest step (limit 0), or none.
	for _, l := range []int64{0, maxLength} {
		for _, scale := range noScales {
			checkNumber(t, "FinestStep", 0, impl.ErrRange)(impl.FinestStep(scale, 25000, 1000, 2000, l))
		}
		for _, scale := range allScales {
			for _, length := range noLengths {
				checkNumber(t, "FinestStep", 0, impl.ErrRange)(impl.FinestStep(scale, length, 1000, 2000, l))
			}
			for _, n := range noBounds {
				for _, other := range []int64{1000, 5000, 10000, n} {
					checkNumber(t, "FinestStep", 0, impl.ErrRange)(impl.FinestStep(scale, 25000, n, other, l))
					checkNumber(t, "FinestStep", 0, impl.ErrRange)(impl.FinestStep(scale, 25000, other, n, l))
				}
			}
			for _, n := range []int64{1000, 1001, 3142, 5000, 9999, 10000} {
				for _, below := range []int64{n, n - 1, n - 2, n - 500, 1000} {
					if below >= 1000 {
						checkNumber(t, "FinestStep", 0, impl.ErrRange)(impl.FinestStep(scale, 25000, n, below, l))
					}
				}
			}
			checkNumber(t, "FinestStep", 0, impl.ErrRange)(impl.FinestStep(scale, 25000, 10000, 1000, l))
		}
	}
	for _, scale := range allScales {
		for _, l := range noLimits {
			checkNumber(t, "FinestStep", 0, impl.ErrRange)(impl.FinestStep(scale, 25000, 1000, 2000, l))
			checkNumber(t, "FinestStep", 0, impl.ErrRange)(impl.FinestStep(scale, 25000, 1000, 1001, l))
		}
	}
}

func TestChooseGraduationExamples(t *testing.T) {
	cases := []struct {
		scale, length, limit int64
		want                 []impl.Part
	}{
		{impl.ScaleC, 25000, 100, parts(1000, 20, 2000, 50, 5000, 100)},
		{impl.ScaleC, 25000, 110, parts(1000, 20, 2000, 50, 5000, 100)}, // but 109 from 1980 to 2000, which are in two parts
		{impl.ScaleC, 25000, 0, parts(1000, 1, 2000, 1, 5000, 1)},
		{impl.ScaleC, 1, 0, parts(1000, 1, 2000, 1, 5000, 1)},
		{impl.ScaleC, 25000, 1, parts(1000, 1, 2000, 1, 5000, 1)},
		{impl.ScaleC, 25000, 2, parts(1000, 1, 2000, 1, 5000, 2)},
		{impl.ScaleC, 25000, 50, parts(1000, 10, 2000, 50, 5000, 50)},
		{impl.ScaleC, maxLength, 100, parts(1000, 5, 2000, 20, 5000, 50)},
		{impl.ScaleA, 25000, 50, parts(1000, 20, 2000, 50, 5000, 100)},
		{impl.ScaleK, 25000, 50, parts(1000, 50, 2000, 100, 5000, 200)},
		{impl.ScaleCI, 25000, 100, parts(1000, 20, 2000, 50, 5000, 100)},
		{impl.ScaleCF, 25000, 100, parts(1000, 20, 2000, 50, 5000, 100)},
		{impl.ScaleL, 25000, 100, parts(1000, 50, 2000, 50, 5000, 50)},
		{impl.ScaleL, 25000, 1388, parts(1000, 500, 2000, 500, 5000, 500)},
		{impl.ScaleC, 25000, 572, parts(1000, 100, 2000, 500, 5000, 500)},
	}
	for _, c := range cases {
		checkParts(t, "ChooseGraduation", c.want, impl.ErrNone)(impl.ChooseGraduation(c.scale, c.length, c.limit))
	}
}

// Promise 7: marks of a chosen graduation are never closer than the limit, inside of a part.

func TestMarksOfChosenGraduationsAreNotCloserThanTheLimit(t *testing.T) {
	for _, scale := range allScales {
		for _, length := range []int64{1, 2, 500, 1000, 12500, 25000, 65536, maxLength} {
			middles := definedMiddles(scale, length)
			var leasts [][]stepLeast
			for _, p := range parts(1000, 1, 2000, 1, 5000, 1) {
				leasts = append(leasts, definedLeasts(scale, p.From, p.To, middles))
			}
			for _, l := range []int64{0, 1, 2, 3, 5, 7, 10, 20, 33, 50, 100, 150, 200, 333, 500, 1000, 1388, 2000, 5000, 10000, 50000, maxLength - 1, maxLength} {
				checkChosen(t, scale, length, l, leasts)
				checkApart(t, scale, length, l, middles)
			}
		}
	}
}

func TestMarksOfChosenGraduationsAreTrulyApart(t *testing.T) {
	for _, scale := range allScales {
		for _, l := range []int64{5, 20, 50, 100, 150} {
			g, code := impl.ChooseGraduation(scale, 25000, l)
			if code != impl.ErrNone {
				t.Errorf("ChooseGraduation(%d, 25000, %d): %d", scale, l, code)
			}
			for _, p := range g {
				for n := p.From; n+p.Step < p.To; n += p.Step {
					// Each middle is off by less than 1.
					if off := trueDistance(scale, n, n+p.Step); off*25000 < float64(l)-2 {
						t.Errorf("%d and %d are too near on scale %d: %f", n, n+p.Step, scale, off)
					}
				}
			}
		}
	}
}

func TestLimitsWithoutChosenGraduations(t *testing.T) {
	cases := []struct{ scale, length, greatest int64 }{
		// The differences from 9000 to 9500, and on ScaleL all of them, which are least.
		{impl.ScaleC, 25000, 587}, {impl.ScaleC, maxLength, 2348}, {impl.ScaleC, 50, 1}, {impl.ScaleA, 25000, 293},
		{impl.ScaleK, 25000, 195}, {impl.ScaleCI, 25000, 587}, {impl.ScaleCF, 25000, 587}, {impl.ScaleL, 25000, 1388},
	}
	for _, c := range cases {
		g, code := impl.ChooseGraduation(c.scale, c.length, c.greatest)
		if code != impl.ErrNone || len(g) != 3 || g[2] != part(5000, 10000, 500) {
			t.Errorf("ChooseGraduation(%d, %d, %d) = %v, %d", c.scale, c.length, c.greatest, g, code)
		}
		checkParts(t, "ChooseGraduation", nil, impl.ErrNotFound)(impl.ChooseGraduation(c.scale, c.length, c.greatest+1))
		checkParts(t, "ChooseGraduation", nil, impl.ErrNotFound)(impl.ChooseGraduation(c.scale, c.length, maxLength))
	}
	checkParts(t, "ChooseGraduation", nil, impl.ErrNotFound)(impl.ChooseGraduation(impl.ScaleC, 1, 1))
}

func TestChooseGraduationErrors(t *testing.T) {
	for _, scale := range allScales {
		for _, l := range noLimits {
			checkParts(t, "ChooseGraduation", nil, impl.ErrRange)(impl.ChooseGraduation(scale, 25000, l))
		}
		for _, length := range noLengths {
			for _, l := range []int64{0, 100, maxLength, -1} {
				checkParts(t, "ChooseGraduation", nil, impl.ErrRange)(impl.ChooseGraduation(scale, length, l))
			}
		}
	}
	for _, scale := range noScales {
		for _, l := range []int64{0, 100, maxLength, -1} {
			checkParts(t, "ChooseGraduation", nil, impl.ErrRange)(impl.ChooseGraduation(scale, 25000, l))
		}
	}
}

// Promise 1, for graduations: they are recovered from their texts.

func TestGraduationTexts(t *testing.T) {
	cases := map[string][]impl.Part{
		"1000/10000/1000": parts(1000, 1000),
		"1000/10000/1":    parts(1000, 1),
		"1000/10000/9000": parts(1000, 9000),
		"1000/2000/20 2000/5000/50 5000/10000/100":   parts(1000, 20, 2000, 50, 5000, 100),
		"1000/1001/1 1001/10000/8999":                parts(1000, 1, 1001, 8999),
		"1000/9000/8000 9000/9999/999 9999/10000/1":  parts(1000, 8000, 9000, 999, 9999, 1),
		"1000/1007/7 1007/9994/11 9994/10000/2":      parts(1000, 7, 1007, 11, 9994, 2),
		"1000/3142/2142 3142/3143/1 3143/10000/6857": parts(1000, 2142, 3142, 1, 3143, 6857),
	}
	for want, g := range cases {
		if s, code := impl.GraduationText(g); s != want || code != impl.ErrNone {
			t.Errorf("GraduationText(%v) = %q, %d; want %q", g, s, code, want)
		}
		checkParts(t, "ReadGraduation", g, impl.ErrNone)(impl.ReadGraduation(want))
	}
}

func TestGraduationsAreRecoveredFromTheirTexts(t *testing.T) {
	list := someGraduations()
	for step := int64(1); step <= 9000; step++ {
		list = append(list, parts(1000, step), parts(1000, 1, 10000-step, step))
	}
	for _, g := range list {
		if !impl.IsGraduation(g) {
			continue
		}
		s, code := impl.GraduationText(g)
		again, two := impl.ReadGraduation(s)
		if !slices.Equal(again, g) || code != impl.ErrNone || two != impl.ErrNone || s != definedText(g) {
			t.Fatalf("GraduationText(%v) = %q, %d; ReadGraduation = %v, %d", g, s, code, again, two)
		}
	}
}

func TestInvalidGraduationsHaveNoText(t *testing.T) {
	for _, g := range noGraduations() {
		if s, code := impl.GraduationText(g); s != "" || code != impl.ErrInvalid {
			t.Errorf("GraduationText(%v) = %q, %d", g, s, code)
		}
		// What would be their text is the text of nothing.
		checkParts(t, "ReadGraduation", nil, impl.ErrSyntax)(impl.ReadGraduation(definedText(g)))
	}
}

func TestReadGraduationRejectsTextsOfNothing(t *testing.T) {
	texts := []string{
		"", " ", "/", "//", "///", "-", "a", "1000", "1000/10000", "1000/10000/", "/10000/1000", "1000//1000", "1000/10000/1000/", "/1000/10000/1000",
		"1000/10000/1000/1000", "1000/10000/1000 ", " 1000/10000/1000", "1000/10000/1000\n", "1000/10000/1000\x00", "1000/10000/1000  ", "1000 /10000/1000",
		"1000/ 10000/1000", "1000,10000,1000", "1000|10000|1000", "1000/10000/1000,", "1000/10000/01000", "01000/10000/1000", "1000/010000/1000",
		"+1000/10000/1000", "1000/+10000/1000", "1000/10000/+1000", "-1000/10000/1000", "1000/-10000/1000", "1000/10000/-1000", "1000/10000/0", "1000/10000/-0",
		"1000/10000/1e3", "1e3/1e4/1e3", "1_000/10_000/1000", "0x3e8/10000/1000", "1000.0/10000/1000", "999/10000/1", "1001/10000/1", "1000/9999/1", "1000/10001/1",
		"1000/10000/7", "1000/10000/9001", "1000/10000/18446744073709552616", "1000/10000/9223372036854775808", "1000/10000/1000000000001", "1000/10000/1000000000000",
		"18446744073709552616/10000/1000", "1000/18446744073709561616/1000", "1000/10000/1000 10000/10000/1",
		"1000/2000/20  2000/10000/50", "1000/2000/20,2000/10000/50", "1000/2000/20\t2000/10000/50", "1000/2000/20\n2000/10000/50", "1000/2000/20/2000/10000/50",
		"1000/2000/20 2001/10000/1", "1000/2000/20 1999/10000/1", "2000/10000/50 1000/2000/20", "1000/2000/20 2000/10000/50 ", "1000/2000/20 2000/10000/50 -",
		"1000/2000/20 2000/10000/3", "1000/2000/3 2000/10000/50", "1000/2000/20 2000/10000/50 10000/11000/50", "1000/2000/20", "1000/2000/20 ", "1000/2000/20 a/b/c",
		"1000/2000/20 2000/2000/1 2000/10000/50", "1000/10000/1000 1000/10000/1000", "1000/10000/1000\x001", "1000/10000/\uff11", "1000/10000/\u0661", "\xff/10000/1", "1000\u221510000/1",
		definedText(thirteenParts()), definedText(thirteenParts()) + " ", strings.Repeat("1000/10000/1000 ", 100), strings.Repeat(" ", 100000), strings.Repeat("/", 100000),
		strings.Repeat("9", 1000) + "/10000/1", "1000/10000/" + strings.Repeat("0", 1000), "1000/10000/" + strings.Repeat("0", 1000) + "1",
	}
	for _, s := range texts {
		checkParts(t, "ReadGraduation "+strconv.Quote(s[:min(len(s), 60)]), nil, impl.ErrSyntax)(impl.ReadGraduation(s))
	}
}

func TestReadGraduationAcceptsExactlyTheTextsOfGraduations(t *testing.T) {
	grammar := regexp.MustCompile(`^([1-9][0-9]*/[1-9][0-9]*/[1-9][0-9]*)( [1-9][0-9]*/[1-9][0-9]*/[1-9][0-9]*)*$`)
	bytes := "01259 /-+.,\n\xff"
	accepted := 0
	for _, base := range []string{"1000/10000/1000", "1000/10000/1", "1000/2000/20 2000/10000/50", "1000/2000/20 2000/5000/50 5000/10000/100"} {
		for i := 0; i <= len(base); i++ {
			for _, b := range []byte(bytes) {
				checkReadGraduation(t, grammar, base[:i]+string([]byte{b})+base[i:], &accepted)
				if i < len(base) {
					checkReadGraduation(t, grammar, base[:i]+base[i+1:], &accepted)
					checkReadGraduation(t, grammar, base[:i]+string([]byte{b})+base[i+1:], &accepted)
				}
				for j := i + 1; j < len(base); j++ {
					for _, c := range []byte(bytes) {
						checkReadGraduation(t, grammar, base[:i]+string([]byte{b})+base[i+1:j]+string([]byte{c})+base[j+1:], &accepted)
					}
				}
			}
		}
	}
	if accepted < 500 {
		t.Error("only", accepted, "texts were accepted")
	}
}

func TestGraduationsShareNoMemory(t *testing.T) {
	backing := parts(1000, 20, 2000, 50, 5000, 100, 6000, 7)
	backing[2].To = 10000
	g, kept := backing[:3], slices.Clone(backing)
	callAllWith(g)
	if !slices.Equal(backing, kept) {
		t.Error("an argument has been changed:", backing)
	}
	for _, spoil := range []func(){
		func() { g, _ := impl.ReadGraduation("1000/10000/1000"); spoilParts(g) },
		func() { g, _ := impl.ChooseGraduation(impl.ScaleC, 25000, 100); spoilParts(g) },
		func() { list, _ := impl.MarksOf(g, 1000, 1100); spoilList(list) },
	} {
		spoil()
		checkParts(t, "ReadGraduation", parts(1000, 1000), impl.ErrNone)(impl.ReadGraduation("1000/10000/1000"))
		checkParts(t, "ChooseGraduation", kept[:3], impl.ErrNone)(impl.ChooseGraduation(impl.ScaleC, 25000, 100))
		checkList(t, "MarksOf", []int64{1000, 1020, 1040, 1060, 1080, 1100}, impl.ErrNone)(impl.MarksOf(g, 1000, 1100))
	}
	if !slices.Equal(backing, kept) {
		t.Error("a result shares memory with an argument:", backing)
	}
}

func callAllWith(g []impl.Part) {
	impl.IsGraduation(g)
	impl.MarksOf(g, 1000, 9999)
	impl.CountMarks(g)
	impl.IsMark(g, 2000)
	impl.NearestMark(g, 2000)
	impl.LeastDistance(g, impl.ScaleC, 25000)
	impl.GraduationText(g)
}

func spoilParts(g []impl.Part) {
	for i := range g {
		g[i] = part(-1, -2, -3)
	}
	_ = append(g[:1], part(-4, -5, -6), part(-7, -8, -9))
}

func spoilList(list []int64) {
	for i := range list {
		list[i] = -1
	}
	_ = append(list[:1], -2, -3)
}

// definedIsGraduation is written for small numbers of parts, in the order of the definition.
func definedIsGraduation(g []impl.Part) bool {
	if len(g) < 1 || len(g) > 12 || g[0].From != 1000 || g[len(g)-1].To != 10000 {
		return false
	}
	for i, p := range g {
		if i > 0 && p.From != g[i-1].To || p.Step < 1 || p.To <= p.From {
			return false
		}
		// Differences may overflow, but only where they are not positive.
		if difference := p.To - p.From; difference < 1 || difference/p.Step*p.Step != difference {
			return false
		}
	}
	return true
}

func checkIsGraduation(t *testing.T, g []impl.Part) {
	t.Helper()
	if want := definedIsGraduation(g); impl.IsGraduation(g) != want {
		t.Errorf("IsGraduation(%v) is not %v", g, want)
	}
}

// definedMarks tries all numbers of the decade.
func definedMarks(g []impl.Part) []int64 {
	var marks []int64
	for n := int64(1000); n <= 9999; n++ {
		for _, p := range g {
			if n >= p.From && n < p.To && (n-p.From)%p.Step == 0 {
				marks = append(marks, n)
			}
		}
	}
	return marks
}

func checkMarks(t *testing.T, g []impl.Part, from, to int64) {
	t.Helper()
	var want []int64
	for _, n := range definedMarks(g) {
		if n >= from && n <= to {
			want = append(want, n)
		}
	}
	if len(want) > 200 {
		checkList(t, "MarksOf", nil, impl.ErrLimit)(impl.MarksOf(g, from, to))
		return
	}
	checkList(t, "MarksOf", want, impl.ErrNone)(impl.MarksOf(g, from, to))
}

// definedMiddles lists the middles of the places of all numbers from 1000 on.
func definedMiddles(scale, length int64) []int64 {
	var middles []int64
	for digits := int64(1000); digits <= 9999; digits++ {
		place := definedPlace(scale, figure(digits, 0), length)
		middles = append(middles, (place.Low+place.High)>>1)
	}
	return middles
}

func definedLeast(marks []int64, scale int64, middles []int64) (int64, int64) {
	var differences []int64
	for i, n := range marks[1:] {
		last := marks[i]
		if scale == impl.ScaleCF && last <= fold && n > fold {
			continue
		}
		a, b := middles[last-1000], middles[n-1000]
		differences = append(differences, max(a, b)-min(a, b))
	}
	if len(differences) == 0 {
		return 0, impl.ErrNotFound
	}
	return slices.Min(differences), impl.ErrNone
}

// stepLeast is the least difference of the marks of a step, if there is one.
type stepLeast struct {
	step, least int64
	exists      bool
}

// definedLeasts lists the usual steps that divide a part.
func definedLeasts(scale, from, to int64, middles []int64) []stepLeast {
	var leasts []stepLeast
	for _, step := range usualSteps {
		if (to-from)/step*step != to-from {
			continue
		}
		var marks []int64
		for n := from; n < to; n += step {
			marks = append(marks, n)
		}
		least, code := definedLeast(marks, scale, middles)
		leasts = append(leasts, stepLeast{step, least, code == impl.ErrNone})
	}
	return leasts
}

func definedFinest(leasts []stepLeast, limit int64) (int64, int64) {
	for _, s := range leasts {
		if !s.exists || s.least >= limit {
			return s.step, impl.ErrNone
		}
	}
	return 0, impl.ErrNotFound
}

// checkFinest tries the limits that just allow each step, and the next greater ones.
func checkFinest(t *testing.T, scale, length, from, to int64, middles []int64) {
	t.Helper()
	leasts, limits := definedLeasts(scale, from, to, middles), []int64{0, 1, 100, maxLength}
	for _, s := range leasts {
		limits = append(limits, s.least, s.least+1)
	}
	slices.Sort(limits)
	for _, l := range slices.Compact(limits) {
		want, code := definedFinest(leasts, l)
		checkNumber(t, "FinestStep on "+scaleNames[scale], want, code)(impl.FinestStep(scale, length, from, to, l))
	}
}

// checkChosen takes the steps of the three parts.
func checkChosen(t *testing.T, scale, length, limit int64, leasts [][]stepLeast) {
	t.Helper()
	first, one := definedFinest(leasts[0], limit)
	second, two := definedFinest(leasts[1], limit)
	third, three := definedFinest(leasts[2], limit)
	want, code := parts(1000, first, 2000, second, 5000, third), int64(impl.ErrNone)
	if one != impl.ErrNone || two != impl.ErrNone || three != impl.ErrNone {
		want, code = nil, impl.ErrNotFound
	}
	checkParts(t, "ChooseGraduation on "+scaleNames[scale], want, code)(impl.ChooseGraduation(scale, length, limit))
}

// checkApart walks over all marks of a chosen graduation: none is too near to the next one of its
// part.
func checkApart(t *testing.T, scale, length, limit int64, middles []int64) {
	t.Helper()
	g, code := impl.ChooseGraduation(scale, length, limit)
	if code == impl.ErrNone && !impl.IsGraduation(g) {
		t.Errorf("ChooseGraduation(%d, %d, %d) = %v is no graduation", scale, length, limit, g)
	}
	for _, p := range g {
		for n := p.From; n+p.Step < p.To; n += p.Step {
			a, b := middles[n-1000], middles[n+p.Step-1000]
			across := scale == impl.ScaleCF && n <= fold && n+p.Step > fold
			if !across && max(a, b)-min(a, b) < limit {
				t.Errorf("%d and %d of %v are closer than %d on scale %d", n, n+p.Step, g, limit, scale)
			}
		}
	}
}

// trueDistance is a part of the length of the scale. On ScaleCF two figures with the place between
// them where it begins again stand far apart.
func trueDistance(scale, a, b int64) float64 {
	if scale == impl.ScaleL {
		return float64(b-a) / 9000
	}
	distance := math.Log10(float64(b) / float64(a))
	if scale == impl.ScaleCF && a <= fold && b > fold {
		return 1 - distance
	}
	return distance / float64(allDecades[scale])
}

func definedText(g []impl.Part) string {
	var words []string
	for _, p := range g {
		words = append(words, strconv.FormatInt(p.From, 10)+"/"+strconv.FormatInt(p.To, 10)+"/"+strconv.FormatInt(p.Step, 10))
	}
	return strings.Join(words, " ")
}

func checkReadGraduation(t *testing.T, grammar *regexp.Regexp, s string, accepted *int) {
	t.Helper()
	g, code := impl.ReadGraduation(s)
	var want []impl.Part
	if grammar.MatchString(s) {
		for _, word := range strings.Split(s, " ") {
			var numbers [3]int64
			for i, number := range strings.Split(word, "/") {
				numbers[i], _ = strconv.ParseInt(number, 10, 64)
			}
			want = append(want, part(numbers[0], numbers[1], numbers[2]))
		}
	}
	if !definedIsGraduation(want) {
		checkParts(t, "ReadGraduation "+strconv.Quote(s), nil, impl.ErrSyntax)(g, code)
		return
	}
	*accepted++
	checkParts(t, "ReadGraduation "+strconv.Quote(s), want, impl.ErrNone)(g, code)
}

// checkParts takes the results of a function directly.
func checkParts(t *testing.T, name string, want []impl.Part, wantCode int64) func([]impl.Part, int64) {
	t.Helper()
	return func(got []impl.Part, code int64) {
		t.Helper()
		if !slices.Equal(got, want) || code != wantCode {
			t.Errorf("%s: %v, %d; want %v, %d", name, got, code, want, wantCode)
		}
	}
}

// checkList takes the results of a function directly.
func checkList(t *testing.T, name string, want []int64, wantCode int64) func([]int64, int64) {
	t.Helper()
	return func(got []int64, code int64) {
		t.Helper()
		if !slices.Equal(got, want) || code != wantCode {
			t.Errorf("%s: %v, %d; want %v, %d", name, got, code, want, wantCode)
		}
	}
}

// checkBool takes the results of a function directly.
func checkBool(t *testing.T, name string, want bool, wantCode int64) func(bool, int64) {
	t.Helper()
	return func(got bool, code int64) {
		t.Helper()
		if got != want || code != wantCode {
			t.Errorf("%s: %v, %d; want %v, %d", name, got, code, want, wantCode)
		}
	}
}
