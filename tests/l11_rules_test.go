package tests

import (
	"math"
	"regexp"
	"slices"
	"strconv"
	"strings"
	"testing"

	"loop.example/g00951/impl"
)

var (
	noSetting = impl.Setting{}

	someShifts  = []int64{0, 1, -1, 315652, -315652, 524288, -732923, decade - 1, decade, 1 - decade, -decade}
	someCursors = []int64{0, 1, 44, 145, 315652, 524287, 524288, 1048120, decade - 1, decade}

	// These are just beyond and far beyond both bounds.
	noShifts  = append([]int64{decade + 1, -decade - 1, decade + 2, -decade - 2, 2 * decade, -2 * decade, 1 << 40, limit, -limit}, noValues...)
	noCursors = append([]int64{-1, decade + 1, -2, decade + 2, -decade, 2 * decade, 1 << 40, limit, -limit}, noValues...)

	// noRule has empty lists.
	noRule = impl.Rule{}
)

func rule(length int64, stock, slide []int64) impl.Rule {
	return impl.Rule{Length: length, Stock: stock, Slide: slide}
}

func setting(shift, cursor int64) impl.Setting {
	return impl.Setting{Shift: shift, Cursor: cursor}
}

// fullRule has all scales that a rule can have, in different orders.
func fullRule() impl.Rule {
	return rule(25000, []int64{impl.ScaleC, impl.ScaleA, impl.ScaleK, impl.ScaleCI, impl.ScaleCF}, []int64{impl.ScaleCF, impl.ScaleK, impl.ScaleC, impl.ScaleCI, impl.ScaleA})
}

// partsOfRules lists all orders of one scale or more.
func partsOfRules() [][]int64 {
	lists := [][]int64{{}}
	for i := 0; i < len(lists); i++ {
		for _, scale := range logScales {
			if !slices.Contains(lists[i], scale) {
				lists = append(lists, append(slices.Clone(lists[i]), scale))
			}
		}
	}
	return lists[1:]
}

// noParts have one thing wrong, or several.
func noParts() [][]int64 {
	lists := [][]int64{
		nil, {}, {impl.ScaleL}, {impl.ScaleC, impl.ScaleL}, {impl.ScaleL, impl.ScaleC}, {impl.ScaleC, impl.ScaleL, impl.ScaleA},
		{impl.ScaleC, impl.ScaleC}, {impl.ScaleCF, impl.ScaleCF}, {impl.ScaleC, impl.ScaleA, impl.ScaleC}, {impl.ScaleA, impl.ScaleC, impl.ScaleC}, {impl.ScaleK, impl.ScaleK, impl.ScaleA},
		// There are only five scales that a part can have, so that the sixth one is always wrong.
		{0, 1, 2, 3, 4, 5}, {5, 0, 1, 2, 3, 4}, {0, 1, 2, 3, 4, 0}, {0, 1, 2, 3, 4, 4}, {0, 1, 2, 3, 4, 6}, {0, 1, 2, 3, 4, -1}, {-1, 0, 1, 2, 3, 4},
		{0, 1, 2, 3, 4, 5, 6}, {0, 1, 2, 3, 4, 5, 0}, {0, 1, 2, 3, 4, 0, 1}, make([]int64, 2), make([]int64, 6), make([]int64, 7), make([]int64, 100000),
	}
	for _, n := range noScales {
		lists = append(lists, []int64{n}, []int64{n, impl.ScaleC}, []int64{impl.ScaleC, n}, []int64{impl.ScaleA, n, impl.ScaleC}, []int64{n, n})
	}
	return lists
}

// noRules have a wrong length, a wrong part, or more than one of these.
func noRules() []impl.Rule {
	list := []impl.Rule{noRule, rule(25000, nil, []int64{}), rule(0, []int64{0}, []int64{5}), rule(-1, nil, nil)}
	for _, length := range noLengths {
		list = append(list, rule(length, []int64{impl.ScaleC, impl.ScaleA}, []int64{impl.ScaleC}), rule(length, []int64{impl.ScaleCF}, []int64{impl.ScaleCF}))
	}
	for _, p := range noParts() {
		list = append(list, rule(25000, p, []int64{impl.ScaleC}), rule(25000, []int64{impl.ScaleC}, p), rule(1, p, p))
	}
	return list
}

func noSettings() []impl.Setting {
	var list []impl.Setting
	for _, shift := range noShifts {
		list = append(list, setting(shift, 0), setting(shift, 500000), setting(shift, decade), setting(shift, -1), setting(shift, shift))
	}
	for _, cursor := range noCursors {
		list = append(list, setting(0, cursor), setting(decade, cursor), setting(-decade, cursor), setting(cursor, cursor))
	}
	return list
}

func TestConstantsOfChapter11(t *testing.T) {
	if impl.MaxScales != 6 {
		t.Error("MaxScales", impl.MaxScales)
	}
}

func TestIsRule(t *testing.T) {
	lists := partsOfRules()
	for _, stock := range lists {
		for _, slide := range lists {
			for _, length := range []int64{1, 2, 25000, maxLength - 1, maxLength} {
				if !impl.IsRule(rule(length, stock, slide)) {
					t.Fatal(length, stock, slide, "are a rule")
				}
			}
		}
	}
	if len(lists) != 325 {
		t.Error("not all parts of rules have been tried, but", len(lists))
	}
	for _, r := range noRules() {
		if impl.IsRule(r) {
			t.Error(r.Length, len(r.Stock), len(r.Slide), "are no rule:", r)
		}
	}
}

func TestIsSetting(t *testing.T) {
	for _, shift := range someShifts {
		for _, cursor := range someCursors {
			if !impl.IsSetting(setting(shift, cursor)) {
				t.Error(setting(shift, cursor), "is a setting")
			}
		}
	}
	for _, s := range noSettings() {
		if impl.IsSetting(s) {
			t.Error(s, "is no setting")
		}
	}
}

func TestHasScale(t *testing.T) {
	r := rule(25000, []int64{impl.ScaleC, impl.ScaleA}, []int64{impl.ScaleCI, impl.ScaleC})
	for _, c := range []struct {
		scale        int64
		stock, slide bool
	}{
		{impl.ScaleC, true, true}, {impl.ScaleA, true, false}, {impl.ScaleK, false, false}, {impl.ScaleCI, false, true}, {impl.ScaleCF, false, false}, {impl.ScaleL, false, false},
	} {
		checkBool(t, "HasScale "+scaleNames[c.scale], c.stock, impl.ErrNone)(impl.HasScale(r, false, c.scale))
		checkBool(t, "HasScale "+scaleNames[c.scale], c.slide, impl.ErrNone)(impl.HasScale(r, true, c.scale))
	}
	for _, p := range partsOfRules() {
		for _, scale := range allScales {
			checkBool(t, "HasScale", slices.Contains(p, scale), impl.ErrNone)(impl.HasScale(rule(1, p, []int64{impl.ScaleC}), false, scale))
			checkBool(t, "HasScale", scale == impl.ScaleC, impl.ErrNone)(impl.HasScale(rule(1, p, []int64{impl.ScaleC}), true, scale))
			checkBool(t, "HasScale", slices.Contains(p, scale), impl.ErrNone)(impl.HasScale(rule(maxLength, []int64{impl.ScaleK}, p), true, scale))
			checkBool(t, "HasScale", scale == impl.ScaleK, impl.ErrNone)(impl.HasScale(rule(maxLength, []int64{impl.ScaleK}, p), false, scale))
		}
	}
	// A number that is no scale is on no part.
	for _, scale := range noScales {
		checkBool(t, "HasScale", false, impl.ErrNone)(impl.HasScale(fullRule(), false, scale))
		checkBool(t, "HasScale", false, impl.ErrNone)(impl.HasScale(fullRule(), true, scale))
	}
}

func TestPointOfExamples(t *testing.T) {
	for _, c := range []struct {
		scale int64
		f     impl.Figure
		want  int64
	}{
		{impl.ScaleC, figure(1000, 0), 0}, {impl.ScaleC, figure(1001, 0), 455}, {impl.ScaleC, figure(2000, 0), 315652}, {impl.ScaleC, figure(2000, 30), 315652}, {impl.ScaleC, figure(2000, -30), 315652},
		// The logarithm of 3.493 is wider than others, so that its middle is no bound.
		{impl.ScaleC, figure(3493, 0), 569585}, {impl.ScaleC, figure(9999, 0), 1048530},
		{impl.ScaleA, figure(1000, 0), 0}, {impl.ScaleA, figure(2000, 0), 157826}, {impl.ScaleA, figure(3493, 0), 284792}, {impl.ScaleA, figure(9999, 0), 524265}, {impl.ScaleA, figure(1000, 1), 524288},
		{impl.ScaleA, figure(2000, 1), 682114}, {impl.ScaleA, figure(2000, -1), 682114}, {impl.ScaleA, figure(2000, 2), 157826}, {impl.ScaleA, figure(9999, 1), 1048553}, {impl.ScaleA, figure(9999, 30), 524265},
		{impl.ScaleK, figure(1000, 0), 0}, {impl.ScaleK, figure(2000, 0), 105217}, {impl.ScaleK, figure(1000, 1), 349525}, {impl.ScaleK, figure(2000, 1), 454742}, {impl.ScaleK, figure(2000, 2), 804268},
		{impl.ScaleK, figure(2000, 3), 105217}, {impl.ScaleK, figure(2000, -1), 804268}, {impl.ScaleK, figure(2000, -2), 454742}, {impl.ScaleK, figure(9999, 2), 1048560}, {impl.ScaleK, figure(1000, -29), 349525},
		{impl.ScaleCI, figure(1000, 0), 1048575}, {impl.ScaleCI, figure(1001, 0), 1048120}, {impl.ScaleCI, figure(2000, -7), 732923}, {impl.ScaleCI, figure(3493, 1), 478991}, {impl.ScaleCI, figure(9999, 30), 45},
		{impl.ScaleCF, figure(1000, 0), 527218}, {impl.ScaleCF, figure(2000, -1), 842870}, {impl.ScaleCF, figure(3141, 0), 1048431}, {impl.ScaleCF, figure(3142, 0), decade}, {impl.ScaleCF, figure(3143, 0), 145},
		{impl.ScaleCF, figure(3493, 0), 48226}, {impl.ScaleCF, figure(9999, -30), 527172},
		{impl.ScaleL, figure(1000, 0), 0}, {impl.ScaleL, figure(1001, 0), 116}, {impl.ScaleL, figure(1003, 0), 349}, {impl.ScaleL, figure(5500, 0), 524288}, {impl.ScaleL, figure(9999, 0), 1048459},
	} {
		checkNumber(t, "PointOf "+scaleNames[c.scale], c.want, impl.ErrNone)(impl.PointOf(c.scale, c.f))
	}
}

func TestPointsFollowTheirDefinition(t *testing.T) {
	for _, scale := range allScales {
		for digits := int64(1000); digits <= 9999; digits++ {
			for _, tens := range []int64{-30, -29, -28, -1, 0, 1, 2, 3, 29, 30} {
				f := figure(digits, tens)
				if scale == impl.ScaleL && tens != 0 {
					checkNumber(t, "PointOf L", 0, impl.ErrRange)(impl.PointOf(scale, f))
					continue
				}
				checkNumber(t, "PointOf "+scaleNames[scale], definedPoint(scale, f), impl.ErrNone)(impl.PointOf(scale, f))
			}
		}
	}
}

func TestPointsThatDoNotExist(t *testing.T) {
	for _, scale := range append(slices.Clone(allScales), noScales...) {
		for _, f := range noFigures {
			checkNumber(t, "PointOf", 0, impl.ErrInvalid)(impl.PointOf(scale, f))
		}
	}
	for _, scale := range noScales {
		for _, f := range []impl.Figure{figure(1000, 0), figure(2000, 1), figure(9999, -30)} {
			checkNumber(t, "PointOf", 0, impl.ErrRange)(impl.PointOf(scale, f))
		}
	}
}

func TestReadStockExamples(t *testing.T) {
	r := fullRule()
	for _, c := range []struct {
		scale, cursor int64
		want          impl.Figure
	}{
		{impl.ScaleC, 315652, figure(2000, 0)}, {impl.ScaleA, 315652, figure(4000, 0)}, {impl.ScaleK, 315652, figure(8000, 0)}, {impl.ScaleCI, 315652, figure(5000, 0)}, {impl.ScaleCF, 315652, figure(6284, 0)},
		{impl.ScaleA, 682114, figure(2000, 1)}, {impl.ScaleK, 454742, figure(2000, 1)}, {impl.ScaleK, 804268, figure(2000, 2)},
		// Both ends, which not all scales reach.
		{impl.ScaleC, 0, figure(1000, 0)}, {impl.ScaleC, decade, figure(9999, 0)}, {impl.ScaleC, decade - 1, figure(9999, 0)},
		{impl.ScaleA, 0, figure(1000, 0)}, {impl.ScaleA, decade, figure(9999, 1)}, {impl.ScaleK, 0, figure(1000, 0)}, {impl.ScaleK, decade, figure(9999, 2)},
		{impl.ScaleCI, 0, figure(9999, 0)}, {impl.ScaleCI, decade, figure(1000, 0)}, {impl.ScaleCI, decade - 1, figure(1000, 0)},
		{impl.ScaleCF, 0, figure(3143, 0)}, {impl.ScaleCF, decade, figure(3142, 0)}, {impl.ScaleCF, decade - 1, figure(3142, 0)},
		// The points of 1.000 and 1.001 are 0 and 455, those of 1.002 and 1.003 are 909 and 1364.
		{impl.ScaleC, 227, figure(1000, 0)}, {impl.ScaleC, 228, figure(1001, 0)}, {impl.ScaleC, 1136, figure(1002, 0)}, {impl.ScaleC, 1137, figure(1003, 0)},
		// The points of 1.001 and 1.002 are 455 and 909, with a number in the middle.
		{impl.ScaleC, 681, figure(1001, 0)}, {impl.ScaleC, 682, figure(1001, 0)}, {impl.ScaleC, 683, figure(1002, 0)},
		// The smaller one of two that are equally near stands on the right on the inverted scale, and where the folded one passes from 9.999 to 1.000.
		{impl.ScaleCI, 1047892, figure(1002, 0)}, {impl.ScaleCI, 1047893, figure(1001, 0)}, {impl.ScaleCI, 1047894, figure(1001, 0)},
		{impl.ScaleCF, 527194, figure(9999, 0)}, {impl.ScaleCF, 527195, figure(1000, 0)}, {impl.ScaleCF, 527196, figure(1000, 0)},
		// Between two decades: 9.999 and 1.000e1 stand at 524265 and 524288, 9.999e1 and 1.000e2 at 699035 and 699050.
		{impl.ScaleA, 524276, figure(9999, 0)}, {impl.ScaleA, 524277, figure(1000, 1)}, {impl.ScaleK, 699042, figure(9999, 1)}, {impl.ScaleK, 699043, figure(1000, 2)},
	} {
		for _, shift := range []int64{0, 1, -decade, decade} {
			checkFigure(t, "ReadStock "+scaleNames[c.scale], c.want, impl.ErrNone)(impl.ReadStock(r, setting(shift, c.cursor), c.scale))
		}
		checkFigure(t, "ReadSlide "+scaleNames[c.scale], c.want, impl.ErrNone)(impl.ReadSlide(r, setting(0, c.cursor), c.scale))
		checkFigure(t, "ReadSlide "+scaleNames[c.scale], c.want, impl.ErrNone)(impl.ReadSlide(r, setting(-c.cursor, 0), c.scale))
		checkFigure(t, "ReadSlide "+scaleNames[c.scale], c.want, impl.ErrNone)(impl.ReadSlide(r, setting(decade-c.cursor, decade), c.scale))
	}
}

func TestReadingsBetweenAllNeighbours(t *testing.T) {
	r := fullRule()
	for _, scale := range logScales {
		row := fromLeftToRight(scale, 0)
		for i := range row[1:] {
			checkBetween(t, r, scale, row[i], row[i+1])
		}
		first, last := definedPoint(scale, row[0]), definedPoint(scale, row[len(row)-1])
		for cursor := int64(0); cursor <= first; cursor++ {
			checkFigure(t, "ReadStock "+scaleNames[scale], row[0], impl.ErrNone)(impl.ReadStock(r, setting(0, cursor), scale))
		}
		for cursor := last; cursor <= decade; cursor++ {
			checkFigure(t, "ReadStock "+scaleNames[scale], row[len(row)-1], impl.ErrNone)(impl.ReadStock(r, setting(0, cursor), scale))
		}
	}
}

func TestReadingsUnderTheCursorFollowTheirDefinition(t *testing.T) {
	r, random := fullRule(), randomNumbers(11)
	for _, scale := range logScales {
		figures, points := pointsOfScale(scale)
		for range 200 {
			cursor := random(decade + 1)
			want := definedReading(figures, points, cursor)
			checkFigure(t, "ReadStock "+scaleNames[scale], want, impl.ErrNone)(impl.ReadStock(r, setting(random(2*decade+1)-decade, cursor), scale))
			shift := random(decade+1) - cursor
			checkFigure(t, "ReadSlide "+scaleNames[scale], want, impl.ErrNone)(impl.ReadSlide(r, setting(shift, cursor+shift), scale))
		}
	}
}

func TestReadSlideOnlyIfTheCursorIsAboveIt(t *testing.T) {
	r := fullRule()
	for _, scale := range logScales {
		figures, points := pointsOfScale(scale)
		for _, shift := range someShifts {
			for _, cursor := range append(slices.Clone(someCursors), shift-1, shift, shift+1, shift+decade-1, shift+decade, shift+decade+1) {
				s, above := setting(shift, cursor), cursor-shift
				switch {
				case cursor < 0 || cursor > decade:
					checkFigure(t, "ReadSlide", none, impl.ErrInvalid)(impl.ReadSlide(r, s, scale))
				case above < 0 || above > decade:
					checkFigure(t, "ReadSlide", none, impl.ErrState)(impl.ReadSlide(r, s, scale))
				default:
					checkFigure(t, "ReadSlide", definedReading(figures, points, above), impl.ErrNone)(impl.ReadSlide(r, s, scale))
				}
			}
		}
	}
	for _, c := range []struct {
		shift, cursor int64
		want          impl.Figure
		code          int64
	}{
		{1, 0, none, impl.ErrState}, {0, 0, figure(1000, 0), impl.ErrNone}, {315652, 315651, none, impl.ErrState}, {315652, 315652, figure(1000, 0), impl.ErrNone},
		{-1, decade, none, impl.ErrState}, {0, decade, figure(9999, 0), impl.ErrNone}, {-315652, 732925, none, impl.ErrState}, {-315652, 732924, figure(9999, 0), impl.ErrNone},
		{decade, decade, figure(1000, 0), impl.ErrNone}, {decade, decade - 1, none, impl.ErrState}, {-decade, 0, figure(9999, 0), impl.ErrNone}, {-decade, 1, none, impl.ErrState},
		{decade, 0, none, impl.ErrState}, {-decade, decade, none, impl.ErrState},
	} {
		checkFigure(t, "ReadSlide", c.want, c.code)(impl.ReadSlide(r, setting(c.shift, c.cursor), impl.ScaleC))
	}
}

func TestSetCursorExamples(t *testing.T) {
	r := rule(25000, []int64{impl.ScaleC, impl.ScaleA, impl.ScaleCF}, []int64{impl.ScaleC, impl.ScaleCI, impl.ScaleCF})
	for _, c := range []struct {
		before impl.Setting
		slide  bool
		scale  int64
		f      impl.Figure
		want   impl.Setting
		code   int64
	}{
		{setting(0, 0), false, impl.ScaleC, figure(2000, 0), setting(0, 315652), impl.ErrNone},
		{setting(0, decade), false, impl.ScaleC, figure(2000, 7), setting(0, 315652), impl.ErrNone},
		{setting(777, 5), false, impl.ScaleA, figure(2000, -1), setting(777, 682114), impl.ErrNone},
		{setting(-decade, 5), false, impl.ScaleCF, figure(3142, 0), setting(-decade, decade), impl.ErrNone},
		{setting(decade, 5), false, impl.ScaleC, figure(1000, 0), setting(decade, 0), impl.ErrNone},
		{setting(0, 5), true, impl.ScaleC, figure(2000, 0), setting(0, 315652), impl.ErrNone},
		{setting(100, 5), true, impl.ScaleC, figure(2000, 0), setting(100, 315752), impl.ErrNone},
		{setting(-100, 5), true, impl.ScaleCI, figure(2000, 3), setting(-100, 732823), impl.ErrNone},
		// The cursor just reaches an end of the stock, and does not.
		{setting(-315652, 5), true, impl.ScaleC, figure(2000, 0), setting(-315652, 0), impl.ErrNone},
		{setting(-315653, 5), true, impl.ScaleC, figure(2000, 0), noSetting, impl.ErrState},
		{setting(732924, 5), true, impl.ScaleC, figure(2000, 0), setting(732924, decade), impl.ErrNone},
		{setting(732925, 5), true, impl.ScaleC, figure(2000, 0), noSetting, impl.ErrState},
		{setting(decade, 5), true, impl.ScaleC, figure(1000, 0), setting(decade, decade), impl.ErrNone},
		{setting(decade, 5), true, impl.ScaleC, figure(1001, 0), noSetting, impl.ErrState},
		{setting(-decade, 5), true, impl.ScaleCF, figure(3142, 0), setting(-decade, 0), impl.ErrNone},
		{setting(-decade, 5), true, impl.ScaleCF, figure(3141, 0), noSetting, impl.ErrState},
		{setting(0, 5), true, impl.ScaleCF, figure(3142, 0), setting(0, decade), impl.ErrNone},
		{setting(1, 5), true, impl.ScaleCF, figure(3142, 0), noSetting, impl.ErrState},
		{setting(-1, 5), true, impl.ScaleC, figure(1000, 0), noSetting, impl.ErrState},
	} {
		checkSetting(t, "SetCursor", c.want, c.code)(impl.SetCursor(r, c.before, c.slide, c.scale, c.f))
	}
}

func TestSetSlideExamples(t *testing.T) {
	r := rule(25000, []int64{impl.ScaleK}, []int64{impl.ScaleC, impl.ScaleA, impl.ScaleCF})
	for _, c := range []struct {
		before impl.Setting
		scale  int64
		f      impl.Figure
		want   impl.Setting
	}{
		{setting(0, 315652), impl.ScaleC, figure(1000, 0), setting(315652, 315652)},
		{setting(decade, 315652), impl.ScaleC, figure(1000, 30), setting(315652, 315652)},
		{setting(777, 315652), impl.ScaleC, figure(2000, 0), setting(0, 315652)},
		{setting(0, 315652), impl.ScaleA, figure(2000, 1), setting(-366462, 315652)},
		{setting(0, 315652), impl.ScaleA, figure(2000, -2), setting(157826, 315652)},
		// The slide is moved as far as it can be.
		{setting(0, decade), impl.ScaleC, figure(1000, 0), setting(decade, decade)},
		{setting(0, 0), impl.ScaleCF, figure(3142, 0), setting(-decade, 0)},
		{setting(decade, 0), impl.ScaleC, figure(9999, 0), setting(-1048530, 0)},
	} {
		checkSetting(t, "SetSlide", c.want, impl.ErrNone)(impl.SetSlide(r, c.before, c.scale, c.f))
	}
}

func TestSettingsFollowTheirDefinition(t *testing.T) {
	r := fullRule()
	for _, scale := range logScales {
		for _, f := range someRuleFigures() {
			point := definedPoint(scale, f)
			for _, shift := range append(slices.Clone(someShifts), -point, -point-1, decade-point, decade-point+1) {
				for _, cursor := range someCursors {
					s := setting(shift, cursor)
					if shift < -decade || shift > decade {
						checkSetting(t, "SetCursor", noSetting, impl.ErrInvalid)(impl.SetCursor(r, s, true, scale, f))
						continue
					}
					checkSetting(t, "SetCursor", setting(shift, point), impl.ErrNone)(impl.SetCursor(r, s, false, scale, f))
					checkSetting(t, "SetSlide", setting(cursor-point, cursor), impl.ErrNone)(impl.SetSlide(r, s, scale, f))
					want, code := setting(shift, point+shift), int64(impl.ErrNone)
					if point+shift < 0 || point+shift > decade {
						want, code = noSetting, impl.ErrState
					}
					checkSetting(t, "SetCursor", want, code)(impl.SetCursor(r, s, true, scale, f))
				}
			}
		}
	}
}

// Promise 11: a figure to which the cursor is set is read there again.

func TestFiguresOfTheStockAreReadAgain(t *testing.T) {
	for i, scale := range logScales {
		r := rule(maxLength, []int64{logScales[(i+1)%5], scale}, []int64{logScales[(i+2)%5]})
		for digits := int64(1000); digits <= 9999; digits++ {
			for _, tens := range []int64{0, 1, 2, -1, -2, -3, -30, 30} {
				f := figure(digits, tens)
				s, one := impl.SetCursor(r, setting(digits, digits), false, scale, f)
				g, two := impl.ReadStock(r, s, scale)
				if one != impl.ErrNone || two != impl.ErrNone || g != shownFigure(scale, f) || s.Shift != digits || !impl.IsSetting(s) {
					t.Fatalf("%v at %v of scale %d is read as %v: %d, %d", f, s, scale, g, one, two)
				}
			}
		}
	}
}

func TestFiguresOfTheSlideAreReadAgain(t *testing.T) {
	for i, scale := range logScales {
		r, count := rule(1, []int64{logScales[(i+2)%5]}, []int64{scale, logScales[(i+1)%5]}), 0
		for digits := int64(1000); digits <= 9999; digits += 3 {
			for _, tens := range []int64{0, 1, 2, -5, 30} {
				f := figure(digits, tens)
				for _, shift := range someShifts {
					s, code := impl.SetCursor(r, setting(shift, 5), true, scale, f)
					if code == impl.ErrState {
						continue
					}
					count++
					checkReadAgain(t, r, s, code, scale, f)
				}
				for _, cursor := range []int64{0, 145, 524288, decade} {
					s, code := impl.SetSlide(r, setting(5, cursor), scale, f)
					checkReadAgain(t, r, s, code, scale, f)
				}
			}
		}
		if count < 3*5*3000 {
			t.Error("the cursor could be set only", count, "times on scale", scale)
		}
	}
}

// Points of figures are the reason why each of them is read again: no two of them are equal.
func TestPointsOfAScaleDiffer(t *testing.T) {
	for _, scale := range allScales {
		last := int64(-1)
		for _, f := range fromLeftToRight(scale, 0) {
			if scale == impl.ScaleL && f.Tens != 0 {
				continue
			}
			point, code := impl.PointOf(scale, f)
			if code != impl.ErrNone || point <= last || point > decade {
				t.Fatalf("PointOf(%d, %v) = %d, %d after %d", scale, f, point, code, last)
			}
			last = point
		}
	}
}

func TestProductsOnARule(t *testing.T) {
	r := rule(25000, []int64{impl.ScaleC}, []int64{impl.ScaleC, impl.ScaleCI})
	for _, c := range []struct{ a, b, product int64 }{{2000, 3000, 6000}, {2000, 4000, 8000}, {1234, 5678, 7007}, {3142, 2718, 8540}, {1000, 1000, 1000}, {1500, 6000, 9000}} {
		s, one := impl.SetCursor(r, noSetting, false, impl.ScaleC, figure(c.a, 0))
		s, two := impl.SetSlide(r, s, impl.ScaleC, figure(1000, 0))
		s, three := impl.SetCursor(r, s, true, impl.ScaleC, figure(c.b, 0))
		got, four := impl.ReadStock(r, s, impl.ScaleC)
		if one != impl.ErrNone || two != impl.ErrNone || three != impl.ErrNone || four != impl.ErrNone || got != figure(c.product, 0) {
			t.Errorf("%d times %d is read as %v", c.a, c.b, got)
		}
		back, code := impl.ReadSlide(r, s, impl.ScaleC)
		checkFigure(t, "ReadSlide", figure(c.b, 0), code)(back, impl.ErrNone)
	}
}

// The order of errors: an argument that is not valid, a scale that is not there, a setting that is
// not possible.

func TestInvalidArgumentsOfRulesComeFirst(t *testing.T) {
	someFigures := []impl.Figure{figure(2000, 0), figure(9999, 30), none, figure(10000, 0)}
	for _, scale := range []int64{impl.ScaleC, impl.ScaleA, impl.ScaleL, -1, 6, math.MinInt64} {
		for _, f := range someFigures {
			for _, r := range noRules() {
				for _, s := range []impl.Setting{noSetting, setting(decade, 5), setting(decade+1, 0), setting(0, -1)} {
					checkAllInvalid(t, r, s, scale, f)
				}
				checkBool(t, "HasScale", false, impl.ErrInvalid)(impl.HasScale(r, true, scale))
				checkBool(t, "HasScale", false, impl.ErrInvalid)(impl.HasScale(r, false, scale))
			}
			for _, s := range noSettings() {
				checkAllInvalid(t, fullRule(), s, scale, f)
				checkAllInvalid(t, rule(1, []int64{impl.ScaleA}, []int64{impl.ScaleCI}), s, scale, f)
			}
		}
		for _, f := range noFigures {
			for _, s := range []impl.Setting{noSetting, setting(decade, 5), setting(-decade, decade)} {
				checkNotSet(t, fullRule(), s, scale, f, impl.ErrInvalid)
				checkNotSet(t, rule(1, []int64{impl.ScaleA}, []int64{impl.ScaleCI}), s, scale, f, impl.ErrInvalid)
			}
		}
	}
}

func TestScalesThatAreNotOnThePartOfTheRule(t *testing.T) {
	// The slide is not below the cursor in some of the settings, and no figure of it can be brought there.
	settings := []impl.Setting{noSetting, setting(0, decade), setting(decade, 0), setting(-decade, decade), setting(decade, decade), setting(5, 4)}
	for _, p := range partsOfRules() {
		for _, scale := range append(slices.Clone(allScales), noScales...) {
			if slices.Contains(p, scale) {
				continue
			}
			for _, s := range settings {
				for _, r := range []impl.Rule{rule(25000, p, logScales), rule(25000, p, p)} {
					checkFigure(t, "ReadStock", none, impl.ErrRange)(impl.ReadStock(r, s, scale))
					checkSetting(t, "SetCursor", noSetting, impl.ErrRange)(impl.SetCursor(r, s, false, scale, figure(2000, 0)))
				}
				for _, r := range []impl.Rule{rule(25000, logScales, p), rule(25000, p, p)} {
					checkFigure(t, "ReadSlide", none, impl.ErrRange)(impl.ReadSlide(r, s, scale))
					checkSetting(t, "SetCursor", noSetting, impl.ErrRange)(impl.SetCursor(r, s, true, scale, figure(2000, 0)))
					checkSetting(t, "SetSlide", noSetting, impl.ErrRange)(impl.SetSlide(r, s, scale, figure(2000, 0)))
				}
			}
		}
	}
}

// Promise 1: rules are recovered from their texts.

func TestRuleTextExamples(t *testing.T) {
	for _, c := range []struct {
		r    impl.Rule
		want string
	}{
		{rule(25000, []int64{impl.ScaleC, impl.ScaleA}, []int64{impl.ScaleC}), "25000 C,A C"},
		{rule(25000, []int64{impl.ScaleA, impl.ScaleC}, []int64{impl.ScaleC}), "25000 A,C C"},
		{rule(1, []int64{impl.ScaleCI}, []int64{impl.ScaleCF}), "1 CI CF"},
		{rule(maxLength, []int64{impl.ScaleK}, []int64{impl.ScaleK}), "100000 K K"},
		{fullRule(), "25000 C,A,K,CI,CF CF,K,C,CI,A"},
	} {
		checkRuleText(t, c.r, c.want)
	}
}

func TestRulesAreRecoveredFromTheirTexts(t *testing.T) {
	lists, lengths := partsOfRules(), []int64{1, 9, 10, 99, 100, 999, 1000, 9999, 10000, 12500, 25000, 99999, maxLength}
	for i, stock := range lists {
		for j, slide := range lists {
			r := rule(lengths[(i+j)%len(lengths)], stock, slide)
			checkRuleText(t, r, definedRuleText(r))
		}
	}
	for length := int64(1); length <= maxLength; length += 7 {
		r := rule(length, lists[length%325], lists[length%313])
		checkRuleText(t, r, definedRuleText(r))
	}
}

func TestInvalidRulesHaveNoText(t *testing.T) {
	for _, r := range noRules() {
		if s, code := impl.RuleText(r); s != "" || code != impl.ErrInvalid {
			t.Errorf("RuleText(%v) = %q, %d", r, s, code)
		}
		// What would be their text is the text of nothing.
		checkRule(t, noRule, impl.ErrSyntax)(impl.ReadRule(definedRuleText(r)))
	}
}

func TestReadRuleRejectsTextsOfNothing(t *testing.T) {
	for _, s := range []string{
		"", " ", "  ", "   ", ",", "-", "25000", "25000 ", "25000 C", "25000 C ", " C C", "25000  C", "25000 C C ", " 25000 C C", "25000  C C", "25000 C  C", "25000 C C C", "25000 C C\n", "25000 C C\x00",
		"25000\tC C", "25000 C\tC", "25000 C\nC", "25000,C,C", "25000/C/C", "C C 25000", "C 25000 C", "C C C", "25000 C 25000", "25000 25000 C", "25000 0 0", "25000 0,1 0",
		"25000 C, C", "25000 ,C C", "25000 C C,", "25000 C ,C", "25000 C,,A C", "25000 C,A C,,A", "25000 , ,", "25000 C,A, C", "25000 C, A C", "25000 C ,A C", "25000 C;A C", "25000 C.A C", "25000 CA C", "25000 C A C",
		"25000 C,C C", "25000 C C,C", "25000 C,A,C C", "25000 C A,K,A", "25000 CI,CI C", "25000 C CF,C,CF", "25000 L C", "25000 C L", "25000 C,L C", "25000 C C,L", "25000 L L", "25000 C,A,K,CI,CF,L C", "25000 C C,A,K,CI,CF,L",
		"25000 c C", "25000 C c", "25000 ci C", "25000 Ci C", "25000 IC C", "25000 D C", "25000 C B", "25000 CIF C", "25000 - C", "25000 C -", "25000 - -", "25000 C,- C", "25000 +C C", "25000 \"C\" C",
		"0 C C", "100001 C C", "-1 C C", "-25000 C C", "+25000 C C", "025000 C C", "00 C C", "-0 C C", "25000.0 C C", "2.5e4 C C", "0x10 C C", "25_000 C C", "25,000 C C", "1000000 C C", "1000000000000 C C", "1000000000001 C C",
		"9223372036854775807 C C", "9223372036854775808 C C", "18446744073709551617 C C", "18446744073709576616 C C", "4294992296 C C", "\uff11 C C", "25000 \u0421 C", "25000 C \uff23", "25000\u00a0C C", "25000 C\u00a0C", "\xff C C", "25000 \xff C", "25000 C\xff C",
		strings.Repeat("9", 100000) + " C C", strings.Repeat("0", 1000) + "1 C C", "25000 " + strings.Repeat("C,", 100000) + "C C", "25000 C " + strings.Repeat("C,A,", 100000) + "K", strings.Repeat(" ", 100000), strings.Repeat(",", 100000), "25000 C" + strings.Repeat(" C", 100000),
	} {
		if r, code := impl.ReadRule(s); !equalRules(r, noRule) || code != impl.ErrSyntax {
			t.Errorf("ReadRule(%q) = %v, %d", s[:min(len(s), 60)], r, code)
		}
	}
}

func TestReadRuleAcceptsExactlyTheTextsOfRules(t *testing.T) {
	bytes := "0159 ,CAKIFL-+c\n\xff"
	accepted := 0
	for _, base := range []string{"25000 C,A C", "1 CI CF", "100000 C,A,CI CF,K"} {
		for i := 0; i <= len(base); i++ {
			for _, b := range []byte(bytes) {
				checkReadRule(t, base[:i]+string([]byte{b})+base[i:], &accepted)
				if i < len(base) {
					checkReadRule(t, base[:i]+base[i+1:], &accepted)
					checkReadRule(t, base[:i]+string([]byte{b})+base[i+1:], &accepted)
				}
				for j := i + 1; j < len(base); j++ {
					for _, c := range []byte(bytes) {
						checkReadRule(t, base[:i]+string([]byte{b})+base[i+1:j]+string([]byte{c})+base[j+1:], &accepted)
					}
				}
			}
		}
	}
	if accepted < 900 {
		t.Error("only", accepted, "texts were accepted")
	}
}

func TestRulesShareNoMemory(t *testing.T) {
	stock, slide := []int64{impl.ScaleC, impl.ScaleA, 77, 78, 79}, []int64{impl.ScaleCI, impl.ScaleC, 87, 88, 89}
	r := rule(25000, stock[:2], slide[:2])
	callAllWithRule(r)
	if !slices.Equal(stock, []int64{impl.ScaleC, impl.ScaleA, 77, 78, 79}) || !slices.Equal(slide, []int64{impl.ScaleCI, impl.ScaleC, 87, 88, 89}) {
		t.Error("an argument has been changed:", stock, slide)
	}
	for range 2 {
		a, one := impl.ReadRule("25000 C,A,K CI,C")
		b, two := impl.ReadRule("25000 C,A,K CI,C")
		want := rule(25000, []int64{impl.ScaleC, impl.ScaleA, impl.ScaleK}, []int64{impl.ScaleCI, impl.ScaleC})
		spoilAll(a.Stock)
		if one != impl.ErrNone || two != impl.ErrNone || !slices.Equal(a.Slide, want.Slide) || !equalRules(b, want) {
			t.Error("the stock shares memory:", a.Slide, b)
		}
		a.Stock = slices.Clone(want.Stock)
		spoilAll(b.Slide)
		if !equalRules(a, want) || !slices.Equal(b.Stock, want.Stock) {
			t.Error("the slide shares memory:", a, b.Stock)
		}
	}
}

func TestRulesDoNotDependOnEarlierCalls(t *testing.T) {
	r := rule(25000, []int64{impl.ScaleC, impl.ScaleA}, []int64{impl.ScaleCI, impl.ScaleC})
	for range 3 {
		checkSetting(t, "SetCursor", setting(0, 315652), impl.ErrNone)(impl.SetCursor(r, noSetting, false, impl.ScaleC, figure(2000, 0)))
		checkFigure(t, "ReadStock", figure(1000, 0), impl.ErrNone)(impl.ReadStock(r, noSetting, impl.ScaleA))
		checkSetting(t, "SetSlide", setting(-732923, 0), impl.ErrNone)(impl.SetSlide(r, noSetting, impl.ScaleCI, figure(2000, 0)))
		checkFigure(t, "ReadSlide", figure(9999, 0), impl.ErrNone)(impl.ReadSlide(r, noSetting, impl.ScaleCI))
		callAllWithRule(fullRule())
		callAllWithRule(noRule)
	}
}

// definedPoint expects a figure that the scale shows. No position begins on the left of 0.
func definedPoint(scale int64, f impl.Figure) int64 {
	a := definedPosition(scale, f)
	return (a.Low + a.High) >> 1
}

// shownFigure is the figure that stands on a scale for all those that differ by its decades.
func shownFigure(scale int64, f impl.Figure) impl.Figure {
	return figure(f.Digits, (f.Tens+60)%allDecades[scale])
}

// pointsOfScale lists the figures of a scale by their sizes, and their points.
func pointsOfScale(scale int64) (figures []impl.Figure, points []int64) {
	for tens := range allDecades[scale] {
		for digits := int64(1000); digits <= 9999; digits++ {
			figures = append(figures, figure(digits, tens))
			points = append(points, definedPoint(scale, figure(digits, tens)))
		}
	}
	return figures, points
}

// definedReading tries all figures.
func definedReading(figures []impl.Figure, points []int64, cursor int64) impl.Figure {
	best := 0
	for i, point := range points {
		if apart(point, cursor) < apart(points[best], cursor) {
			best = i
		}
	}
	return figures[best]
}

// someRuleFigures have points at both ends of some scales, and between.
func someRuleFigures() []impl.Figure {
	var list []impl.Figure
	for _, digits := range []int64{1000, 1001, 1414, 2000, 3141, 3142, 3143, 3493, 5000, 9998, 9999} {
		for _, tens := range []int64{0, 1, 2, -1, -30, 30} {
			list = append(list, figure(digits, tens))
		}
	}
	return list
}

// checkBetween walks from a figure to the next one on its right. In the middle the smaller one is
// read.
func checkBetween(t *testing.T, r impl.Rule, scale int64, left, right impl.Figure) {
	t.Helper()
	p, q := definedPoint(scale, left), definedPoint(scale, right)
	for _, cursor := range []int64{p, (p+q)/2 - 1, (p + q) / 2, (p+q)/2 + 1, q} {
		want := left
		if 2*cursor > p+q || 2*cursor == p+q && fraction(right).Cmp(fraction(left)) < 0 {
			want = right
		}
		checkFigure(t, "ReadStock "+scaleNames[scale], want, impl.ErrNone)(impl.ReadStock(r, setting(0, cursor), scale))
	}
}

func checkReadAgain(t *testing.T, r impl.Rule, s impl.Setting, code, scale int64, f impl.Figure) {
	t.Helper()
	g, two := impl.ReadSlide(r, s, scale)
	if code != impl.ErrNone || two != impl.ErrNone || g != shownFigure(scale, f) || !impl.IsSetting(s) {
		t.Errorf("%v at %v of scale %d is read as %v: %d, %d", f, s, scale, g, code, two)
	}
}

func checkAllInvalid(t *testing.T, r impl.Rule, s impl.Setting, scale int64, f impl.Figure) {
	t.Helper()
	checkFigure(t, "ReadStock", none, impl.ErrInvalid)(impl.ReadStock(r, s, scale))
	checkFigure(t, "ReadSlide", none, impl.ErrInvalid)(impl.ReadSlide(r, s, scale))
	checkNotSet(t, r, s, scale, f, impl.ErrInvalid)
}

func checkNotSet(t *testing.T, r impl.Rule, s impl.Setting, scale int64, f impl.Figure, code int64) {
	t.Helper()
	checkSetting(t, "SetCursor", noSetting, code)(impl.SetCursor(r, s, false, scale, f))
	checkSetting(t, "SetCursor", noSetting, code)(impl.SetCursor(r, s, true, scale, f))
	checkSetting(t, "SetSlide", noSetting, code)(impl.SetSlide(r, s, scale, f))
}

func callAllWithRule(r impl.Rule) {
	s := setting(-5, 315652)
	impl.IsRule(r)
	impl.IsSetting(s)
	impl.RuleText(r)
	for _, scale := range logScales {
		for _, slide := range []bool{false, true} {
			impl.HasScale(r, slide, scale)
			impl.SetCursor(r, s, slide, scale, figure(2000, 0))
		}
		impl.ReadStock(r, s, scale)
		impl.ReadSlide(r, s, scale)
		impl.SetSlide(r, s, scale, figure(2000, 0))
	}
}

// spoilAll also writes behind a list, as far as its memory reaches.
func spoilAll(list []int64) {
	list = list[:cap(list)]
	for i := range list {
		list[i] = -1
	}
}

// definedRuleText also writes numbers that are no scales.
func definedRuleText(r impl.Rule) string {
	text := strconv.FormatInt(r.Length, 10)
	for _, p := range [][]int64{r.Stock, r.Slide} {
		before := " "
		for _, scale := range p {
			name := strconv.FormatInt(scale, 10)
			if scale >= 0 && scale < int64(len(scaleNames)) {
				name = scaleNames[scale]
			}
			text += before + name
			before = ","
			if len(text) > 10000 {
				break
			}
		}
		if len(p) == 0 {
			text += before
		}
	}
	return text
}

func equalRules(a, b impl.Rule) bool {
	return a.Length == b.Length && slices.Equal(a.Stock, b.Stock) && slices.Equal(a.Slide, b.Slide)
}

func checkRuleText(t *testing.T, r impl.Rule, want string) {
	t.Helper()
	if s, code := impl.RuleText(r); s != want || code != impl.ErrNone {
		t.Errorf("RuleText(%v) = %q, %d; want %q", r, s, code, want)
	}
	checkRule(t, r, impl.ErrNone)(impl.ReadRule(want))
}

var ruleGrammar = regexp.MustCompile(`^[1-9][0-9]*( (C|A|K|CI|CF)(,(C|A|K|CI|CF))*){2}$`)

// checkReadRule expects a text with a short number.
func checkReadRule(t *testing.T, s string, accepted *int) {
	t.Helper()
	got, code := impl.ReadRule(s)
	want := noRule
	if ruleGrammar.MatchString(s) {
		words := strings.Split(s, " ")
		want.Length, _ = strconv.ParseInt(words[0], 10, 64)
		for _, name := range strings.Split(words[1], ",") {
			want.Stock = append(want.Stock, int64(slices.Index(scaleNames, name)))
		}
		for _, name := range strings.Split(words[2], ",") {
			want.Slide = append(want.Slide, int64(slices.Index(scaleNames, name)))
		}
	}
	if want.Length < 1 || want.Length > maxLength || hasTwice(want.Stock) || hasTwice(want.Slide) {
		checkRule(t, noRule, impl.ErrSyntax)(got, code)
		return
	}
	*accepted++
	checkRule(t, want, impl.ErrNone)(got, code)
}

func hasTwice(list []int64) bool {
	sorted := slices.Sorted(slices.Values(list))
	return len(slices.Compact(sorted)) < len(list)
}

// checkRule takes the results of ReadRule directly.
func checkRule(t *testing.T, want impl.Rule, wantCode int64) func(impl.Rule, int64) {
	t.Helper()
	return func(got impl.Rule, code int64) {
		t.Helper()
		if !equalRules(got, want) || code != wantCode {
			t.Errorf("ReadRule: %v, %d; want %v, %d", got, code, want, wantCode)
		}
	}
}

// checkSetting takes the results of a function directly.
func checkSetting(t *testing.T, name string, want impl.Setting, wantCode int64) func(impl.Setting, int64) {
	t.Helper()
	return func(got impl.Setting, code int64) {
		t.Helper()
		if got != want || code != wantCode {
			t.Errorf("%s: %v, %d; want %v, %d", name, got, code, want, wantCode)
		}
	}
}
