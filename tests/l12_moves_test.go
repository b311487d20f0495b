package tests

import (
	"math"
	"regexp"
	"slices"
	"strconv"
	"strings"
	"testing"

	"loop.example/g00951/impl"
)

const maxMoves = impl.MaxMoves

var (
	figureKinds = []int64{impl.MoveStock, impl.MoveSlide, impl.MoveSet}
	endKinds    = []int64{impl.MoveLeft, impl.MoveRight, impl.MoveToLeft, impl.MoveToRight}

	// These are in the order of the kinds.
	moveLetters = []string{"P", "S", "T", "L", "R", "l", "r"}

	noKinds = append([]int64{-1, 7, -2, 8, -7, 1 << 32, limit, -limit}, noValues...)
)

func move(kind, scale int64, f impl.Figure) impl.Move {
	return impl.Move{Kind: kind, Scale: scale, Figure: f}
}

// ends takes kinds of moves without a figure.
func ends(kinds ...int64) []impl.Move {
	list := make([]impl.Move, len(kinds))
	for i, kind := range kinds {
		list[i] = move(kind, 0, none)
	}
	return list
}

func manyMoves(count int, m impl.Move) []impl.Move {
	return slices.Repeat([]impl.Move{m}, count)
}

// someMoves are valid: of all kinds, on all scales, with figures at their bounds and between.
func someMoves() []impl.Move {
	list := ends(endKinds...)
	for _, kind := range figureKinds {
		for _, scale := range logScales {
			for _, f := range someRuleFigures() {
				list = append(list, move(kind, scale, f))
			}
		}
	}
	return list
}

// noMoves have a wrong kind, a wrong scale, a wrong figure, or more than one of these.
func noMoves() []impl.Move {
	var list []impl.Move
	for _, kind := range noKinds {
		list = append(list, move(kind, 0, none), move(kind, impl.ScaleC, figure(2000, 0)), move(kind, impl.ScaleL, none), move(kind, -1, figure(999, 0)))
	}
	for _, kind := range figureKinds {
		for _, scale := range noLogScales {
			list = append(list, move(kind, scale, figure(2000, 0)), move(kind, scale, none), move(kind, scale, figure(10000, 0)))
		}
		for _, f := range noFigures {
			list = append(list, move(kind, impl.ScaleC, f), move(kind, impl.ScaleCF, f), move(kind, impl.ScaleL, f))
		}
	}
	for _, kind := range endKinds {
		for _, scale := range append(slices.Clone(allScales), noScales...) {
			list = append(list, move(kind, scale, figure(2000, 0)), move(kind, scale, figure(0, 1)), move(kind, scale, figure(-1, 0)))
			if scale != 0 {
				list = append(list, move(kind, scale, none))
			}
		}
	}
	return list
}

func TestConstantsOfChapter12(t *testing.T) {
	if maxMoves != 30 {
		t.Error("MaxMoves", maxMoves)
	}
	for want, kind := range append(slices.Clone(figureKinds), endKinds...) {
		if kind != int64(want) {
			t.Errorf("kind %d is %d", want, kind)
		}
	}
}

func TestAreMoves(t *testing.T) {
	good := append(someMoves(), move(impl.MoveStock, impl.ScaleC, figure(1000, -30)), move(impl.MoveSlide, impl.ScaleK, figure(9999, 30)))
	for i, m := range good {
		for _, list := range [][]impl.Move{{m}, {m, m}, {m, good[i*7%len(good)]}, manyMoves(29, m), manyMoves(maxMoves, m)} {
			if !impl.AreMoves(list) {
				t.Error(len(list), "moves as", m)
			}
		}
		for _, count := range []int{maxMoves + 1, maxMoves + 2, 1000} {
			if impl.AreMoves(manyMoves(count, m)) {
				t.Error(count, "moves as", m)
			}
		}
	}
	if !impl.AreMoves(nil) || !impl.AreMoves([]impl.Move{}) {
		t.Error("no moves are moves")
	}
	if impl.AreMoves(manyMoves(100000, good[0])) {
		t.Error("100000 moves")
	}
}

func TestAreMovesLooksAtEachMove(t *testing.T) {
	for _, m := range noMoves() {
		for _, count := range []int{1, 2, 3, 29, maxMoves, maxMoves + 1} {
			for _, wrong := range []int{0, count / 2, count - 1} {
				list := manyMoves(count, move(impl.MoveLeft, 0, none))
				list[wrong] = m
				if impl.AreMoves(list) {
					t.Errorf("%v is move %d of %d", m, wrong, count)
				}
			}
		}
	}
}

func TestApplyMoveExamples(t *testing.T) {
	r := rule(25000, []int64{impl.ScaleC, impl.ScaleA}, []int64{impl.ScaleCI, impl.ScaleC})
	for _, c := range []struct {
		before impl.Setting
		m      impl.Move
		want   impl.Setting
		code   int64
	}{
		{setting(777, 5), move(impl.MoveStock, impl.ScaleC, figure(2000, 0)), setting(777, 315652), impl.ErrNone},
		{setting(-777, 5), move(impl.MoveStock, impl.ScaleA, figure(2000, 1)), setting(-777, 682114), impl.ErrNone},
		{setting(100, 5), move(impl.MoveSlide, impl.ScaleC, figure(2000, -3)), setting(100, 315752), impl.ErrNone},
		{setting(-100, 5), move(impl.MoveSlide, impl.ScaleCI, figure(2000, 0)), setting(-100, 732823), impl.ErrNone},
		{setting(777, 315652), move(impl.MoveSet, impl.ScaleC, figure(3000, 0)), setting(-184645, 315652), impl.ErrNone},
		{setting(777, 315652), move(impl.MoveSet, impl.ScaleC, figure(1000, 0)), setting(315652, 315652), impl.ErrNone},
		// An end of the slide is put under the cursor, which is always possible.
		{setting(777, 315652), move(impl.MoveLeft, 0, none), setting(315652, 315652), impl.ErrNone},
		{setting(777, 0), move(impl.MoveLeft, 0, none), setting(0, 0), impl.ErrNone},
		{setting(-777, decade), move(impl.MoveLeft, 0, none), setting(decade, decade), impl.ErrNone},
		{setting(777, 315652), move(impl.MoveRight, 0, none), setting(-732924, 315652), impl.ErrNone},
		{setting(777, 0), move(impl.MoveRight, 0, none), setting(-decade, 0), impl.ErrNone},
		{setting(-777, decade), move(impl.MoveRight, 0, none), setting(0, decade), impl.ErrNone},
		// The cursor is put above an end of the slide, if that is above the stock.
		{setting(315652, 5), move(impl.MoveToLeft, 0, none), setting(315652, 315652), impl.ErrNone},
		{setting(decade, 5), move(impl.MoveToLeft, 0, none), setting(decade, decade), impl.ErrNone},
		{setting(0, 5), move(impl.MoveToLeft, 0, none), setting(0, 0), impl.ErrNone},
		{setting(-1, 5), move(impl.MoveToLeft, 0, none), noSetting, impl.ErrState},
		{setting(-decade, 5), move(impl.MoveToLeft, 0, none), noSetting, impl.ErrState},
		{setting(-315652, 5), move(impl.MoveToRight, 0, none), setting(-315652, 732924), impl.ErrNone},
		{setting(-decade, 5), move(impl.MoveToRight, 0, none), setting(-decade, 0), impl.ErrNone},
		{setting(0, 5), move(impl.MoveToRight, 0, none), setting(0, decade), impl.ErrNone},
		{setting(1, 5), move(impl.MoveToRight, 0, none), noSetting, impl.ErrState},
		{setting(decade, 5), move(impl.MoveToRight, 0, none), noSetting, impl.ErrState},
		// The cursor just reaches an end of the stock, and does not.
		{setting(-315652, 5), move(impl.MoveSlide, impl.ScaleC, figure(2000, 0)), setting(-315652, 0), impl.ErrNone},
		{setting(-315653, 5), move(impl.MoveSlide, impl.ScaleC, figure(2000, 0)), noSetting, impl.ErrState},
		{setting(732924, 5), move(impl.MoveSlide, impl.ScaleC, figure(2000, 0)), setting(732924, decade), impl.ErrNone},
		{setting(732925, 5), move(impl.MoveSlide, impl.ScaleC, figure(2000, 0)), noSetting, impl.ErrState},
		// A scale that is on the other part, or on none.
		{setting(0, 5), move(impl.MoveStock, impl.ScaleCI, figure(2000, 0)), noSetting, impl.ErrState},
		{setting(0, 5), move(impl.MoveStock, impl.ScaleK, figure(2000, 0)), noSetting, impl.ErrState},
		{setting(0, 5), move(impl.MoveSlide, impl.ScaleA, figure(2000, 0)), noSetting, impl.ErrState},
		{setting(0, 5), move(impl.MoveSlide, impl.ScaleCF, figure(2000, 0)), noSetting, impl.ErrState},
		{setting(0, 5), move(impl.MoveSet, impl.ScaleA, figure(2000, 0)), noSetting, impl.ErrState},
		{setting(0, 5), move(impl.MoveSet, impl.ScaleK, figure(2000, 0)), noSetting, impl.ErrState},
	} {
		checkSetting(t, "ApplyMove "+definedMoveText(c.m), c.want, c.code)(impl.ApplyMove(r, c.before, c.m))
	}
}

func TestMovesFollowTheirDefinition(t *testing.T) {
	for _, r := range []impl.Rule{fullRule(), rule(1, []int64{impl.ScaleC, impl.ScaleA}, []int64{impl.ScaleCI}), rule(maxLength, []int64{impl.ScaleK}, []int64{impl.ScaleCF, impl.ScaleC})} {
		for _, m := range someMoves() {
			point := int64(0)
			if m.Figure != none {
				point = definedPoint(m.Scale, m.Figure)
			}
			for _, shift := range append(slices.Clone(someShifts), -point, -point-1, decade-point, decade-point+1) {
				if shift < -decade || shift > decade {
					continue
				}
				for _, cursor := range []int64{0, 1, 524288, decade - 1, decade} {
					checkMoves(t, r, setting(shift, cursor), []impl.Move{m})
				}
			}
		}
	}
}

func TestMovesSetWhatChapter11Sets(t *testing.T) {
	r := rule(25000, []int64{impl.ScaleC, impl.ScaleA, impl.ScaleCF}, []int64{impl.ScaleK, impl.ScaleCI, impl.ScaleC})
	for _, scale := range logScales {
		for _, f := range someRuleFigures() {
			for _, s := range []impl.Setting{setting(0, 5), setting(315652, 315652), setting(-315652, decade), setting(decade, 0), setting(-decade, decade)} {
				stock, one := impl.SetCursor(r, s, false, scale, f)
				slide, two := impl.SetCursor(r, s, true, scale, f)
				set, three := impl.SetSlide(r, s, scale, f)
				checkSetting(t, "MoveStock", stock, possible(one))(impl.ApplyMove(r, s, move(impl.MoveStock, scale, f)))
				checkSetting(t, "MoveSlide", slide, possible(two))(impl.ApplyMove(r, s, move(impl.MoveSlide, scale, f)))
				checkSetting(t, "MoveSet", set, possible(three))(impl.ApplyMove(r, s, move(impl.MoveSet, scale, f)))
			}
		}
	}
}

func TestRunMovesExamples(t *testing.T) {
	r := rule(25000, []int64{impl.ScaleC, impl.ScaleA}, []int64{impl.ScaleC, impl.ScaleCI})
	two, three := move(impl.MoveStock, impl.ScaleC, figure(2000, 0)), move(impl.MoveSlide, impl.ScaleC, figure(3000, 0))
	left, right := move(impl.MoveLeft, 0, none), move(impl.MoveRight, 0, none)
	toLeft, toRight := move(impl.MoveToLeft, 0, none), move(impl.MoveToRight, 0, none)
	for _, c := range []struct {
		list          []impl.Move
		want          impl.Setting
		slide, cursor int64
		settings      int64
	}{
		{nil, setting(0, 0), 0, 0, 0},
		{[]impl.Move{}, setting(0, 0), 0, 0, 0},
		{[]impl.Move{two, left, three}, setting(315652, 815949), 315652, 815949, 2},
		// Ways are added up, so that coming back does not take them away.
		{[]impl.Move{two, move(impl.MoveStock, impl.ScaleC, figure(1000, 0))}, setting(0, 0), 0, 631304, 2},
		{[]impl.Move{two, left, move(impl.MoveStock, impl.ScaleC, figure(1000, 0)), left, toLeft}, setting(0, 0), 631304, 631304, 2},
		{[]impl.Move{two, right, toRight, left}, setting(315652, 315652), 732924 + decade, 315652, 1},
		{[]impl.Move{two, move(impl.MoveSet, impl.ScaleC, figure(3000, 0)), toRight}, setting(-184645, 863931), 184645, 315652 + 548279, 2},
		{[]impl.Move{right, left, toLeft}, setting(0, 0), 2 * decade, 0, 0},
		{[]impl.Move{toRight, left, toLeft}, setting(decade, decade), decade, decade, 0},
	} {
		name := definedMovesText(c.list)
		checkSetting(t, "RunMoves "+name, c.want, impl.ErrNone)(impl.RunMoves(r, noSetting, c.list))
		checkPair(t, c.slide, c.cursor, impl.ErrNone)(impl.TravelOf(r, noSetting, c.list))
		checkNumber(t, "CountSettings "+name, c.settings, impl.ErrNone)(impl.CountSettings(c.list))
		checkNumber(t, "FirstImpossible "+name, 0, impl.ErrNotFound)(impl.FirstImpossible(r, noSetting, c.list))
	}
	for _, s := range []impl.Setting{setting(5, 7), setting(-decade, decade), setting(decade, 0)} {
		checkSetting(t, "RunMoves", s, impl.ErrNone)(impl.RunMoves(r, s, nil))
		checkPair(t, 0, 0, impl.ErrNone)(impl.TravelOf(r, s, nil))
	}
}

func TestFirstImpossibleExamples(t *testing.T) {
	r := rule(25000, []int64{impl.ScaleC, impl.ScaleA}, []int64{impl.ScaleC})
	two, nine := move(impl.MoveStock, impl.ScaleC, figure(2000, 0)), move(impl.MoveSlide, impl.ScaleC, figure(9000, 0))
	left, toLeft, toRight := move(impl.MoveLeft, 0, none), move(impl.MoveToLeft, 0, none), move(impl.MoveToRight, 0, none)
	missing := move(impl.MoveSlide, impl.ScaleA, figure(2000, 0))
	for _, c := range []struct {
		s    impl.Setting
		list []impl.Move
		want int64
	}{
		{setting(-5, 0), []impl.Move{toRight, toLeft}, 1},
		{setting(-5, 0), []impl.Move{toLeft, toRight}, 0},
		{setting(-5, 0), []impl.Move{toLeft, toLeft}, 0},
		{setting(5, 0), []impl.Move{toLeft, toRight, toLeft}, 1},
		// It becomes possible or impossible by the moves before it.
		{setting(0, 0), []impl.Move{two, left, nine}, 2},
		{setting(-5, 0), []impl.Move{left, toLeft, two, toLeft, nine, two, left, nine}, 7},
		{setting(0, 0), []impl.Move{missing}, 0},
		{setting(0, 0), []impl.Move{two, left, missing, nine}, 2},
		{setting(0, 0), append(manyMoves(29, two), missing), 29},
		{setting(0, 0), append(append(manyMoves(28, two), missing), two), 28},
	} {
		name := definedMovesText(c.list)
		checkNumber(t, "FirstImpossible "+name, c.want, impl.ErrNone)(impl.FirstImpossible(r, c.s, c.list))
		checkSetting(t, "RunMoves "+name, noSetting, impl.ErrState)(impl.RunMoves(r, c.s, c.list))
		checkPair(t, 0, 0, impl.ErrState)(impl.TravelOf(r, c.s, c.list))
		checkMoves(t, r, c.s, c.list)
		checkMoves(t, r, c.s, c.list[:c.want])
	}
	checkNumber(t, "FirstImpossible", 0, impl.ErrNotFound)(impl.FirstImpossible(r, noSetting, nil))
	checkNumber(t, "FirstImpossible", 0, impl.ErrNotFound)(impl.FirstImpossible(r, setting(-decade, decade), []impl.Move{}))
	checkNumber(t, "FirstImpossible", 0, impl.ErrNotFound)(impl.FirstImpossible(r, noSetting, manyMoves(maxMoves, two)))
}

func TestCountSettingsOfEachKind(t *testing.T) {
	for _, m := range someMoves() {
		for _, count := range []int{1, 2, 29, maxMoves} {
			want := int64(0)
			if slices.Contains(figureKinds, m.Kind) {
				want = int64(count)
			}
			checkNumber(t, "CountSettings", want, impl.ErrNone)(impl.CountSettings(manyMoves(count, m)))
		}
	}
	checkNumber(t, "CountSettings", 0, impl.ErrNone)(impl.CountSettings(nil))
	checkNumber(t, "CountSettings", 0, impl.ErrNone)(impl.CountSettings([]impl.Move{}))
}

// Promise 12: doing moves in two parts is doing all of them.

func TestMovesInTwoParts(t *testing.T) {
	random, whole, broken := randomNumbers(12), 0, 0
	for range 400 {
		r, s := randomRule(random), setting(random(2*decade+1)-decade, random(decade+1))
		list := randomMoves(random, r, s, 30)
		if random(3) == 0 {
			list = list[:random(31)]
		}
		if random(3) == 0 && len(list) > 0 {
			list[random(int64(len(list)))] = anyMove(random)
		}
		if _, first, _, _ := definedRun(r, s, list); first == len(list) {
			whole++
		} else {
			broken++
		}
		checkMoves(t, r, s, list)
		for k := range len(list) + 1 {
			checkTwoParts(t, r, s, list[:k], list[k:])
		}
	}
	if whole < 200 || broken < 40 {
		t.Error("too few lists are possible, or too few are not:", whole, broken)
	}
}

func TestShortMovesInTwoParts(t *testing.T) {
	r := rule(25000, []int64{impl.ScaleC}, []int64{impl.ScaleC})
	all := append(ends(endKinds...), move(impl.MoveStock, impl.ScaleC, figure(5000, 0)), move(impl.MoveSlide, impl.ScaleC, figure(3000, 0)), move(impl.MoveSet, impl.ScaleC, figure(7000, 0)), move(impl.MoveSlide, impl.ScaleA, figure(3000, 0)))
	for _, s := range []impl.Setting{noSetting, setting(-315652, 99), setting(315652, 1000000)} {
		for _, a := range all {
			for _, b := range all {
				for _, c := range all {
					list := []impl.Move{a, b, c}
					checkMoves(t, r, s, list)
					for k := range 4 {
						checkTwoParts(t, r, s, list[:k], list[k:])
					}
				}
			}
		}
	}
}

func TestTravelAndSettingsOfTwoPartsAddUp(t *testing.T) {
	random, r := randomNumbers(112), fullRule()
	for range 300 {
		s := setting(random(2*decade+1)-decade, random(decade+1))
		list := randomMoves(random, r, s, 30)
		k := random(31)
		middle, one := impl.RunMoves(r, s, list[:k])
		slide, cursor, two := impl.TravelOf(r, s, list[:k])
		slide2, cursor2, three := impl.TravelOf(r, middle, list[k:])
		settings, four := impl.CountSettings(list[:k])
		settings2, five := impl.CountSettings(list[k:])
		if one != impl.ErrNone || two != impl.ErrNone || three != impl.ErrNone || four != impl.ErrNone || five != impl.ErrNone {
			t.Error("a part of possible moves is not possible:", one, two, three, four, five)
		}
		checkPair(t, slide+slide2, cursor+cursor2, impl.ErrNone)(impl.TravelOf(r, s, list))
		checkNumber(t, "CountSettings", settings+settings2, impl.ErrNone)(impl.CountSettings(list))
	}
}

// The order of errors: an argument that is not valid, too many moves, a move that is not possible.

func TestInvalidArgumentsOfMovesComeFirst(t *testing.T) {
	left, missing := move(impl.MoveLeft, 0, none), move(impl.MoveSlide, impl.ScaleCF, figure(2000, 0))
	toLeft := move(impl.MoveToLeft, 0, none)
	lists := [][]impl.Move{nil, {left}, {missing}, {left, toLeft, missing}, manyMoves(maxMoves, left), manyMoves(maxMoves+1, left), manyMoves(maxMoves+1, missing), {move(7, 0, none)}}
	for _, list := range lists {
		for _, r := range noRules() {
			for _, s := range []impl.Setting{noSetting, setting(-5, 5), setting(decade+1, 0), setting(0, -1)} {
				checkMovesCode(t, r, s, list, impl.ErrInvalid)
			}
		}
		for _, s := range noSettings() {
			checkMovesCode(t, fullRule(), s, list, impl.ErrInvalid)
			checkMovesCode(t, rule(1, []int64{impl.ScaleA}, []int64{impl.ScaleCI}), s, list, impl.ErrInvalid)
		}
	}
}

func TestInvalidMovesComeFirst(t *testing.T) {
	r, s := rule(25000, []int64{impl.ScaleA}, []int64{impl.ScaleCI}), setting(-5, 5)
	toLeft := move(impl.MoveToLeft, 0, none) // which is not possible
	for _, m := range noMoves() {
		for _, list := range [][]impl.Move{{m}, {toLeft, m}, {m, toLeft}, append(manyMoves(29, toLeft), m), append(manyMoves(maxMoves, toLeft), m), append(manyMoves(99, toLeft), m), append([]impl.Move{m}, manyMoves(maxMoves, toLeft)...)} {
			checkMovesCode(t, r, s, list, impl.ErrInvalid)
			checkListCode(t, list, impl.ErrInvalid)
		}
	}
}

func TestTooManyMovesComeNext(t *testing.T) {
	r := rule(25000, []int64{impl.ScaleA}, []int64{impl.ScaleCI})
	for _, m := range append(ends(endKinds...), move(impl.MoveStock, impl.ScaleA, figure(2000, 0)), move(impl.MoveSlide, impl.ScaleA, figure(2000, 0)), move(impl.MoveSet, impl.ScaleK, figure(2000, 0))) {
		for _, count := range []int{maxMoves + 1, maxMoves + 2, 60, 1000, 100000} {
			list := manyMoves(count, m)
			checkMovesCode(t, r, setting(-5, 5), list, impl.ErrLimit)
			checkMovesCode(t, r, setting(5, 5), list, impl.ErrLimit)
			checkListCode(t, list, impl.ErrLimit)
		}
		for _, s := range []impl.Setting{setting(-5, 5), setting(5, 5), setting(0, decade)} {
			checkMoves(t, r, s, manyMoves(maxMoves, m))
		}
	}
}

// Promise 1: moves are recovered from their texts.

func TestMovesTextExamples(t *testing.T) {
	for _, c := range []struct {
		list []impl.Move
		want string
	}{
		{nil, ""},
		{[]impl.Move{}, ""},
		{[]impl.Move{move(impl.MoveStock, impl.ScaleC, figure(2000, 0)), move(impl.MoveLeft, 0, none), move(impl.MoveSlide, impl.ScaleC, figure(3000, 0))}, "PC:2.000e0 L SC:3.000e0"},
		{ends(endKinds...), "L R l r"},
		{[]impl.Move{move(impl.MoveSet, impl.ScaleCI, figure(1001, -1))}, "TCI:1.001e-1"},
		{[]impl.Move{move(impl.MoveSet, impl.ScaleCF, figure(9999, 30)), move(impl.MoveSlide, impl.ScaleK, figure(1000, -30)), move(impl.MoveStock, impl.ScaleA, figure(6284, 10))}, "TCF:9.999e30 SK:1.000e-30 PA:6.284e10"},
		{manyMoves(maxMoves, move(impl.MoveToRight, 0, none)), strings.Repeat("r ", 29) + "r"},
	} {
		checkMovesText(t, c.list, c.want)
	}
}

func TestMovesAreRecoveredFromTheirTexts(t *testing.T) {
	good, texts := someMoves(), map[string]impl.Move{}
	for i, m := range good {
		checkMovesText(t, []impl.Move{m}, definedMoveText(m))
		checkMovesText(t, []impl.Move{m, good[i*11%len(good)]}, definedMoveText(m)+" "+definedMoveText(good[i*11%len(good)]))
		checkMovesText(t, manyMoves(29, m), strings.Repeat(definedMoveText(m)+" ", 28)+definedMoveText(m))
		checkMovesText(t, manyMoves(maxMoves, m), strings.Repeat(definedMoveText(m)+" ", 29)+definedMoveText(m))
		texts[definedMoveText(m)] = m
	}
	if len(texts) != len(good) {
		t.Error("two moves have the same text:", len(texts), "of", len(good))
	}
	random := randomNumbers(121)
	for range 1000 {
		list := make([]impl.Move, random(31))
		for i := range list {
			list[i] = anyMove(random)
		}
		checkMovesText(t, list, definedMovesText(list))
	}
	for digits := int64(1000); digits <= 9999; digits++ {
		m := move(digits%3, logScales[digits%5], figure(digits, digits%61-30))
		checkMovesText(t, []impl.Move{m}, definedMoveText(m))
	}
}

func TestInvalidMovesHaveNoText(t *testing.T) {
	for _, m := range noMoves() {
		for _, list := range [][]impl.Move{{m}, {m, move(impl.MoveLeft, 0, none)}, {move(impl.MoveStock, impl.ScaleC, figure(2000, 0)), m}} {
			if s, code := impl.MovesText(list); s != "" || code != impl.ErrInvalid {
				t.Errorf("MovesText(%v) = %q, %d", list, s, code)
			}
		}
		// What would be its text is the text of nothing, unless it is that of the kind alone.
		if slices.Contains(figureKinds, m.Kind) {
			checkMoveList(t, definedMoveText(m), nil, impl.ErrSyntax)(impl.ReadMoves(definedMoveText(m)))
		}
	}
	for _, m := range []impl.Move{move(impl.MoveLeft, 0, none), move(impl.MoveSet, impl.ScaleK, figure(2000, 0))} {
		for _, count := range []int{maxMoves + 1, maxMoves + 2, 100, 10000} {
			s, code := impl.MovesText(manyMoves(count, m))
			if s != "" || code != impl.ErrLimit {
				t.Errorf("MovesText of %d moves = %q, %d", count, s, code)
			}
			text := strings.Repeat(definedMoveText(m)+" ", count-1) + definedMoveText(m)
			checkMoveList(t, "many moves", nil, impl.ErrSyntax)(impl.ReadMoves(text))
		}
	}
}

func TestReadMovesAcceptsTheTextOfNone(t *testing.T) {
	list, code := impl.ReadMoves("")
	if len(list) != 0 || code != impl.ErrNone {
		t.Error("ReadMoves of the empty string:", list, code)
	}
}

func TestReadMovesRejectsTextsOfNothing(t *testing.T) {
	for _, s := range []string{
		" ", "  ", "-", ",", ":", "P", "S", "T", "p", "s", "t", "C", "C:2.000e0", "2.000e0", ":2.000e0", "P:", "P:2.000e0", "PC", "PC:", "PC2.000e0", "PC 2.000e0", "PC :2.000e0", "PC: 2.000e0", "P C:2.000e0", "PC::2.000e0", "PC:2.000e0:",
		"L ", " L", "L  L", "L L ", " L L", "L\n", "L\tL", "L,L", "LL", "LR", "L R l r ", "L\x00", "M", "0", "3", "A", "LC", "LC:2.000e0", "L:", "L:2.000e0", "rC:2.000e0", "lC", "R1", "\xff", "\u041b", "\uff2c",
		"PL:2.000e0", "SL:2.000e0", "TL:2.000e0", "PL:1.000e0", "PD:2.000e0", "Pc:2.000e0", "PCIF:2.000e0", "PIC:2.000e0", "PCC:2.000e0", "PC,A:2.000e0", "P0:2.000e0", "P-:2.000e0", "pC:2.000e0", "sC:2.000e0", "tC:2.000e0", "QC:2.000e0", "UC:2.000e0",
		"PC:2", "PC:2.0", "PC:2.000", "PC:2.000e", "PC:2.000e+0", "PC:2.000e00", "PC:2.000e-0", "PC:2.000E0", "PC:2.0000e0", "PC:20.00e0", "PC:0.200e0", "PC:02.000e0", "PC:+2.000e0", "PC:-2.000e0", "PC:2.000e31", "PC:2.000e-31", "PC:2,000e0", "PC:2.000e0.", "PC:2.000e0\n", "PC:2.000e0L",
		"PC:2.000e0  L", "PC:2.000e0 L ", " PC:2.000e0 L", "PC:2.000e0,L", "PC:2.000e0\nL", "PC:2.000e0 SC:3.000", "PC:2.000e0 SC:3.000e0 x", "PC:2.000e0 ST:3.000e0", "PC=2.000e0", "PC/2.000e0", "SPC:2.000e0", "PSC:2.000e0", "PC:C:2.000e0", "PC:2.000e0\u00a0L",
		strings.Repeat("L ", 30) + "L", strings.Repeat("L ", 30), strings.Repeat("L ", 29) + "L ", strings.Repeat("L ", 29) + " L", strings.Repeat("L ", 29) + "x", "x" + strings.Repeat(" L", 29), strings.Repeat("PC:2.000e0 ", 30) + "PC:2.000e0",
		strings.Repeat("L ", 100000), strings.Repeat("L ", 100000) + "L", strings.Repeat("L", 100000), strings.Repeat(" ", 100000), "PC:" + strings.Repeat("2", 100000), "P" + strings.Repeat("C", 100000) + ":2.000e0", strings.Repeat("PC:2.000e0 ", 10000) + "l", "PC:2.000e0 " + strings.Repeat("x", 100000),
	} {
		list, code := impl.ReadMoves(s)
		if list != nil || code != impl.ErrSyntax {
			t.Errorf("ReadMoves(%q) = %v, %d", s[:min(len(s), 60)], list, code)
		}
	}
}

func TestReadMovesAcceptsExactlyTheTextsOfMoves(t *testing.T) {
	bytes := "0129 .:e-PSTLRlrCAKIFp\n\xff"
	accepted := 0
	for _, base := range []string{"PC:2.000e0 TCI:1.500e0", "r SA:1.000e-30", "L R", "SCF:9.999e30 l", strings.Repeat("l ", 28) + "l R", strings.Repeat("r ", 29) + "R"} {
		for i := 0; i <= len(base); i++ {
			for _, b := range []byte(bytes) {
				checkReadMoves(t, base[:i]+string([]byte{b})+base[i:], &accepted)
				if i < len(base) {
					checkReadMoves(t, base[:i]+base[i+1:], &accepted)
					checkReadMoves(t, base[:i]+string([]byte{b})+base[i+1:], &accepted)
				}
				for j := i + 1; j < len(base) && len(base) < 30; j++ {
					for _, c := range []byte(bytes) {
						checkReadMoves(t, base[:i]+string([]byte{b})+base[i+1:j]+string([]byte{c})+base[j+1:], &accepted)
					}
				}
			}
		}
	}
	if accepted < 1000 {
		t.Error("only", accepted, "texts were accepted")
	}
}

func TestMovesShareNoMemory(t *testing.T) {
	two, left := move(impl.MoveStock, impl.ScaleC, figure(2000, 0)), move(impl.MoveLeft, 0, none)
	spare := move(77, 78, figure(79, 80))
	all := []impl.Move{two, left, two, spare, spare}
	stock, slide := []int64{impl.ScaleC, impl.ScaleA, 77, 78, 79}, []int64{impl.ScaleCI, impl.ScaleC, 87, 88, 89}
	callAllWithMoves(rule(25000, stock[:2], slide[:2]), all[:3])
	if !slices.Equal(all, []impl.Move{two, left, two, spare, spare}) {
		t.Error("moves have been changed:", all)
	}
	if !slices.Equal(stock, []int64{impl.ScaleC, impl.ScaleA, 77, 78, 79}) || !slices.Equal(slide, []int64{impl.ScaleCI, impl.ScaleC, 87, 88, 89}) {
		t.Error("a rule has been changed:", stock, slide)
	}
	for _, text := range []string{"PC:2.000e0 L PC:2.000e0", ""} {
		for range 2 {
			a, one := impl.ReadMoves(text)
			b, two := impl.ReadMoves(text)
			want := slices.Clone(b)
			spoilMoves(a)
			if one != impl.ErrNone || two != impl.ErrNone || !slices.Equal(b, want) || definedMovesText(b) != text {
				t.Error("the moves share memory:", a, b)
			}
			spoilMoves(b)
		}
	}
}

func TestMovesDoNotDependOnEarlierCalls(t *testing.T) {
	r := rule(25000, []int64{impl.ScaleC, impl.ScaleA}, []int64{impl.ScaleC})
	list := []impl.Move{move(impl.MoveStock, impl.ScaleC, figure(2000, 0)), move(impl.MoveLeft, 0, none), move(impl.MoveSlide, impl.ScaleC, figure(3000, 0))}
	for range 3 {
		checkSetting(t, "RunMoves", setting(315652, 815949), impl.ErrNone)(impl.RunMoves(r, noSetting, list))
		checkPair(t, 315652, 815949, impl.ErrNone)(impl.TravelOf(r, noSetting, list))
		checkNumber(t, "FirstImpossible", 0, impl.ErrNotFound)(impl.FirstImpossible(r, noSetting, list))
		checkNumber(t, "CountSettings", 2, impl.ErrNone)(impl.CountSettings(list))
		callAllWithMoves(fullRule(), list[1:])
		callAllWithMoves(noRule, list)
		callAllWithMoves(r, ends(impl.MoveToRight, impl.MoveToRight, 99))
	}
}

// possible is the code of a move whose setting has a code of chapter 11.
func possible(code int64) int64 {
	if code == impl.ErrNone {
		return impl.ErrNone
	}
	return impl.ErrState
}

// definedMove returns the setting after a valid move, and whether it is possible.
func definedMove(r impl.Rule, s impl.Setting, m impl.Move) (impl.Setting, bool) {
	next, there := s, true
	switch m.Kind {
	case 0:
		next.Cursor, there = definedPoint(m.Scale, m.Figure), slices.Contains(r.Stock, m.Scale)
	case 1:
		next.Cursor, there = s.Shift+definedPoint(m.Scale, m.Figure), slices.Contains(r.Slide, m.Scale)
	case 2:
		next.Shift, there = s.Cursor-definedPoint(m.Scale, m.Figure), slices.Contains(r.Slide, m.Scale)
	case 3:
		next.Shift = s.Cursor
	case 4:
		next.Shift = s.Cursor - decade
	case 5:
		next.Cursor = s.Shift
	case 6:
		next.Cursor = s.Shift + decade
	}
	return next, there && -decade <= next.Shift && next.Shift <= decade && 0 <= next.Cursor && next.Cursor <= decade
}

// definedRun stops at the first move that is not possible, if there is one.
func definedRun(r impl.Rule, s impl.Setting, list []impl.Move) (end impl.Setting, first int, slide, cursor int64) {
	for i, m := range list {
		next, ok := definedMove(r, s, m)
		if !ok {
			return s, i, slide, cursor
		}
		slide += apart(next.Shift, s.Shift)
		cursor += apart(next.Cursor, s.Cursor)
		s = next
	}
	return s, len(list), slide, cursor
}

// checkMoves expects a valid rule, a valid setting and moves.
func checkMoves(t *testing.T, r impl.Rule, s impl.Setting, list []impl.Move) {
	t.Helper()
	end, first, slide, cursor := definedRun(r, s, list)
	index, code, state := int64(0), int64(impl.ErrNotFound), int64(impl.ErrNone)
	if first < len(list) {
		end, index, code = noSetting, int64(first), impl.ErrNone
		slide, cursor, state = 0, 0, impl.ErrState
	}
	name := definedMovesText(list)
	checkSetting(t, "RunMoves "+name, end, state)(impl.RunMoves(r, s, list))
	checkNumber(t, "FirstImpossible "+name, index, code)(impl.FirstImpossible(r, s, list))
	checkPair(t, slide, cursor, state)(impl.TravelOf(r, s, list))
	if len(list) == 1 {
		checkSetting(t, "ApplyMove "+name, end, state)(impl.ApplyMove(r, s, list[0]))
	}
	settings := int64(0)
	for _, m := range list {
		if m.Kind <= 2 {
			settings++
		}
	}
	checkNumber(t, "CountSettings "+name, settings, impl.ErrNone)(impl.CountSettings(list))
}

// checkTwoParts compares the program only with itself.
func checkTwoParts(t *testing.T, r impl.Rule, s impl.Setting, first, second []impl.Move) {
	t.Helper()
	list := slices.Concat(first, second)
	name := definedMovesText(first) + " and " + definedMovesText(second)
	middle, code := impl.RunMoves(r, s, first)
	if code != impl.ErrNone {
		checkSetting(t, name, noSetting, impl.ErrState)(middle, code)
		checkSetting(t, name, noSetting, impl.ErrState)(impl.RunMoves(r, s, list))
		index, code := impl.FirstImpossible(r, s, first)
		checkNumber(t, name, index, code)(impl.FirstImpossible(r, s, list))
		return
	}
	end, code := impl.RunMoves(r, middle, second)
	checkSetting(t, name, end, code)(impl.RunMoves(r, s, list))
	index, code := impl.FirstImpossible(r, middle, second)
	if code == impl.ErrNone {
		index += int64(len(first))
	}
	checkNumber(t, name, index, code)(impl.FirstImpossible(r, s, list))
}

func randomRule(random func(int64) int64) impl.Rule {
	lists := partsOfRules()
	return rule(1+random(maxLength), lists[random(int64(len(lists)))], lists[random(int64(len(lists)))])
}

// anyMove is valid, and may be possible or not.
func anyMove(random func(int64) int64) impl.Move {
	kind := random(7)
	if kind > 2 {
		return move(kind, 0, none)
	}
	return move(kind, logScales[random(5)], figure(1000+random(9000), random(61)-30))
}

// randomMoves are possible, one after the other.
func randomMoves(random func(int64) int64, r impl.Rule, s impl.Setting, count int) []impl.Move {
	var list []impl.Move
	for len(list) < count {
		m := anyMove(random)
		if next, ok := definedMove(r, s, m); ok {
			list, s = append(list, m), next
		}
	}
	return list
}

// checkMovesCode expects the same code of all functions that have a rule.
func checkMovesCode(t *testing.T, r impl.Rule, s impl.Setting, list []impl.Move, want int64) {
	t.Helper()
	checkSetting(t, "RunMoves", noSetting, want)(impl.RunMoves(r, s, list))
	checkNumber(t, "FirstImpossible", 0, want)(impl.FirstImpossible(r, s, list))
	checkPair(t, 0, 0, want)(impl.TravelOf(r, s, list))
	if len(list) == 1 {
		checkSetting(t, "ApplyMove", noSetting, want)(impl.ApplyMove(r, s, list[0]))
	}
}

// checkListCode expects the same code of all functions that have moves only.
func checkListCode(t *testing.T, list []impl.Move, want int64) {
	t.Helper()
	checkNumber(t, "CountSettings", 0, want)(impl.CountSettings(list))
	if s, code := impl.MovesText(list); s != "" || code != want {
		t.Errorf("MovesText of %d moves = %q, %d; want %d", len(list), s, code, want)
	}
	if impl.AreMoves(list) {
		t.Error(len(list), "are no moves")
	}
}

// definedMoveText also writes moves that are not valid.
func definedMoveText(m impl.Move) string {
	if m.Kind < 0 || m.Kind >= int64(len(moveLetters)) {
		return strconv.FormatInt(m.Kind, 10)
	}
	if m.Kind > 2 {
		return moveLetters[m.Kind]
	}
	name := strconv.FormatInt(m.Scale, 10)
	if m.Scale >= 0 && m.Scale < int64(len(scaleNames)) {
		name = scaleNames[m.Scale]
	}
	digits := strconv.FormatInt(m.Figure.Digits, 10)
	return moveLetters[m.Kind] + name + ":" + digits[:1] + "." + digits[1:] + "e" + strconv.FormatInt(m.Figure.Tens, 10)
}

func definedMovesText(list []impl.Move) string {
	words := make([]string, len(list))
	for i, m := range list {
		words[i] = definedMoveText(m)
	}
	return strings.Join(words, " ")
}

func checkMovesText(t *testing.T, list []impl.Move, want string) {
	t.Helper()
	if s, code := impl.MovesText(list); s != want || code != impl.ErrNone {
		t.Errorf("MovesText(%v) = %q, %d; want %q", list, s, code, want)
	}
	checkMoveList(t, want, list, impl.ErrNone)(impl.ReadMoves(want))
}

var moveGrammar = regexp.MustCompile(`^(?:[LRlr]|([PST])(C|A|K|CI|CF):([1-9])\.([0-9]{3})e(0|-?[1-9][0-9]?))$`)

// grammarMoves returns the moves with a text, and false if there are none.
func grammarMoves(s string) ([]impl.Move, bool) {
	var list []impl.Move
	if s == "" {
		return list, true
	}
	for _, word := range strings.Split(s, " ") {
		found := moveGrammar.FindStringSubmatch(word)
		switch {
		case found == nil:
			return nil, false
		case found[1] == "":
			list = append(list, move(int64(slices.Index(moveLetters, word)), 0, none))
		default:
			digits, _ := strconv.ParseInt(found[3]+found[4], 10, 64)
			tens, _ := strconv.ParseInt(found[5], 10, 64)
			list = append(list, move(int64(slices.Index(moveLetters, found[1])), int64(slices.Index(scaleNames, found[2])), figure(digits, tens)))
			if tens < -30 || tens > 30 {
				return nil, false
			}
		}
	}
	return list, len(list) <= maxMoves
}

func checkReadMoves(t *testing.T, s string, accepted *int) {
	t.Helper()
	want, ok := grammarMoves(s)
	if !ok {
		checkMoveList(t, s, nil, impl.ErrSyntax)(impl.ReadMoves(s))
		return
	}
	*accepted++
	checkMoveList(t, s, want, impl.ErrNone)(impl.ReadMoves(s))
}

// checkMoveList takes the results of ReadMoves directly.
func checkMoveList(t *testing.T, text string, want []impl.Move, wantCode int64) func([]impl.Move, int64) {
	t.Helper()
	return func(got []impl.Move, code int64) {
		t.Helper()
		if !slices.Equal(got, want) || code != wantCode {
			t.Errorf("ReadMoves(%q): %v, %d; want %v, %d", text, got, code, want, wantCode)
		}
	}
}

func callAllWithMoves(r impl.Rule, list []impl.Move) {
	impl.AreMoves(list)
	for _, s := range []impl.Setting{noSetting, setting(-5, 315652), setting(math.MaxInt64, math.MinInt64)} {
		impl.RunMoves(r, s, list)
		impl.FirstImpossible(r, s, list)
		impl.TravelOf(r, s, list)
		for _, m := range list {
			impl.ApplyMove(r, s, m)
		}
	}
	impl.CountSettings(list)
	impl.MovesText(list)
}

// spoilMoves also writes behind a list, as far as its memory reaches.
func spoilMoves(list []impl.Move) {
	list = list[:cap(list)]
	for i := range list {
		list[i] = move(-1, -1, figure(-1, -1))
	}
}
