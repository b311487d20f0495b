package tests

import (
	"math"
	"slices"
	"strconv"
	"strings"
	"testing"

	"loop.example/g00951/impl"
)

const maxLabels = impl.MaxLabels

// letters has a mark for each number of characters.
var letters = []int64{0: 0, 1: 3000, 2: 3400, 3: 3050, 4: 3001}

// labels takes Mark, Place and Height of each tick.
func labels(numbers ...int64) []impl.Tick {
	var ticks []impl.Tick
	for i := 0; i < len(numbers); i += 3 {
		ticks = append(ticks, tick(numbers[i], numbers[i+1], numbers[i+2]))
	}
	return ticks
}

// digitsAt are labels of one character, which need 60 on both sides. It takes Place and Height.
func digitsAt(numbers ...int64) []impl.Tick {
	var ticks []impl.Tick
	for i := 0; i < len(numbers); i += 2 {
		ticks = append(ticks, tick(1000*(1+int64(i)/2%9), numbers[i], numbers[i+1]))
	}
	return ticks
}

// manyLabels stand from left to right, and touch each other.
func manyLabels(count int) []impl.Tick {
	ticks := make([]impl.Tick, count)
	for i := range ticks {
		ticks[i] = tick(2000, int64(i)*120, int64(i%5))
	}
	return ticks
}

// someLabels are lists of 0 to 40 ticks in any order, crowded or far apart, with all lengths of
// labels, and many that touch each other.
func someLabels() [][]impl.Tick {
	list := [][]impl.Tick{nil, {}, manyLabels(maxLabels)}
	next := randomNumbers(9)
	for _, width := range []int64{1, 100, 500, 1500, 4000, 12000, maxLength + 1} {
		for _, unit := range []int64{1, 7, 60} {
			for _, count := range []int{1, 2, 3, 4, 5, 6, 8, 10, 12, 13, 20, 30, 39, maxLabels} {
				ticks := make([]impl.Tick, count)
				for i := range ticks {
					mark := 1000 + next(9000)
					ticks[i] = tick([]int64{mark, mark / 10 * 10, mark / 100 * 100, mark / 1000 * 1000}[next(4)], next(width)/unit*unit, next(5))
				}
				list = append(list, ticks)
			}
		}
	}
	return list
}

func TestConstantsOfChapter9(t *testing.T) {
	if impl.LetterWidth != 120 || maxLabels != 40 {
		t.Error("LetterWidth, MaxLabels", impl.LetterWidth, maxLabels)
	}
}

func TestLabelTextExamples(t *testing.T) {
	cases := map[int64]string{
		1250: "125", 1000: "1", 9000: "9", 1100: "11", 9900: "99", 1010: "101", 1001: "1001", 9999: "9999", 9990: "999", 2050: "205", 3142: "3142",
		1200: "12", 5000: "5", 1990: "199", 2001: "2001", 2010: "201", 7070: "707", 1999: "1999",
	}
	for mark, want := range cases {
		checkLabelText(t, tick(mark, 0, 0), want, impl.ErrNone)
	}
}

func TestLabelsAreMarksWithoutZerosAtTheirEnds(t *testing.T) {
	for mark := int64(1000); mark <= 9999; mark++ {
		for _, k := range []impl.Tick{tick(mark, 0, 0), tick(mark, maxLength, 4), tick(mark, mark, mark%5)} {
			checkLabelText(t, k, strings.TrimRight(strconv.FormatInt(mark, 10), "0"), impl.ErrNone)
		}
	}
}

func TestDoCollideExamples(t *testing.T) {
	cases := []struct {
		a, b impl.Tick
		want bool
	}{
		{tick(1000, 0, 4), tick(2000, 100, 4), true},
		{tick(1000, 0, 4), tick(2000, 200, 4), false},
		{tick(1000, 0, 0), tick(2000, 119, 0), true},
		{tick(1000, 0, 0), tick(2000, 120, 0), false}, // they only touch each other
		{tick(1000, 0, 0), tick(2000, 121, 0), false},
		{tick(1200, 500, 0), tick(2000, 679, 0), true},
		{tick(1200, 500, 0), tick(2000, 680, 0), false},
		{tick(1200, 500, 0), tick(2000, 321, 0), true},
		{tick(1200, 500, 0), tick(2000, 320, 0), false},
		{tick(1250, 500, 0), tick(1245, 919, 0), true},
		{tick(1250, 500, 0), tick(1245, 920, 0), false},
		{tick(1111, 480, 0), tick(1112, 959, 0), true},
		{tick(1111, 480, 0), tick(1112, 960, 0), false},
		{tick(1111, 500, 0), tick(2000, 500, 4), true}, // one inside of the other
		{tick(1111, 500, 0), tick(2000, 320, 4), true},
		{tick(1111, 500, 0), tick(2000, 680, 4), true},
		{tick(1111, 500, 0), tick(2000, 200, 4), false},
		{tick(1111, 500, 0), tick(2000, 800, 4), false},
		{tick(2000, 0, 0), tick(2000, 0, 0), true}, // a label and itself
		{tick(2345, maxLength, 0), tick(2345, maxLength, 0), true},
		{tick(2345, maxLength, 4), tick(2345, maxLength-480, 4), false},
		{tick(2345, maxLength, 4), tick(2345, maxLength-479, 4), true},
		{tick(2345, 0, 4), tick(2345, maxLength, 4), false},
	}
	for _, c := range cases {
		checkBool(t, "DoCollide", c.want, impl.ErrNone)(impl.DoCollide(c.a, c.b))
		checkBool(t, "DoCollide", c.want, impl.ErrNone)(impl.DoCollide(c.b, c.a))
	}
}

func TestLabelsOfAllLengthsCollideUpToTheirEnds(t *testing.T) {
	for n := int64(1); n <= 4; n++ {
		for m := int64(1); m <= 4; m++ {
			for place := int64(0); place <= 1200; place++ {
				for height := range int64(5) {
					a, b := tick(letters[n], 600, height), tick(letters[m], place, 4-height)
					checkBool(t, "DoCollide", apart(600, place) < 60*(n+m), impl.ErrNone)(impl.DoCollide(a, b))
				}
			}
		}
	}
}

func TestIsChoiceExamples(t *testing.T) {
	row := digitsAt(0, 4, 120, 0, 239, 1, 359, 2) // only the second and the third one collide
	cases := []struct {
		ticks  []impl.Tick
		choice []int64
		want   bool
	}{
		{nil, nil, true},
		{nil, []int64{}, true},
		{nil, []int64{0}, false},
		{nil, []int64{-1}, false},
		{row, nil, true},
		{row, []int64{}, true},
		{row, []int64{0}, true},
		{row, []int64{3}, true},
		{row, []int64{4}, false},
		{row, []int64{-1}, false},
		{row, []int64{0, 1}, true},
		{row, []int64{1, 0}, false},
		{row, []int64{1, 1}, false},
		{row, []int64{1, 2}, false}, // they collide
		{row, []int64{2, 3}, true},
		{row, []int64{0, 1, 3}, true},
		{row, []int64{0, 2, 3}, true},
		{row, []int64{0, 3, 2}, false},
		{row, []int64{0, 1, 2, 3}, false},
		{row, []int64{-1, 0, 1}, false},
		{row, []int64{0, 1, 4}, false},
		{row, []int64{0, 4, 1}, false},
		{row, []int64{0, 0, 1}, false},
		{row, []int64{math.MinInt64, 0}, false},
		{row, []int64{0, math.MaxInt64}, false},
		{row, []int64{1 << 32}, false},
		{row, []int64{0, 1 << 32, 1<<32 + 1}, false},
		{row, []int64{-1 << 32}, false},
		{row, make([]int64, 10000), false},
		// Labels collide with others than their neighbours.
		{labels(1000, 100, 0, 2000, 300, 0, 1111, 200, 0), []int64{0, 1}, true},
		{labels(1000, 100, 0, 2000, 900, 0, 1111, 200, 0), []int64{0, 2}, false},
		{labels(1000, 100, 0, 2000, 900, 0, 1111, 200, 0), []int64{0, 1, 2}, false},
		{labels(1000, 100, 0, 2000, 900, 0, 1111, 200, 0), []int64{1, 2}, true},
		{labels(1000, 900, 0, 2000, 500, 0, 3000, 100, 0), []int64{0, 1, 2}, true}, // from right to left
		{digitsAt(5, 0, 5, 1), []int64{0, 1}, false},
	}
	for _, c := range cases {
		checkBool(t, "IsChoice", c.want, impl.ErrNone)(impl.IsChoice(c.ticks, c.choice))
		if !c.want {
			checkNumber(t, "WorthOf", 0, impl.ErrState)(impl.WorthOf(c.ticks, c.choice))
		}
	}
}

func TestWorthOfExamples(t *testing.T) {
	row := digitsAt(0, 0, 120, 1, 240, 2, 360, 3, 480, 4)
	cases := []struct {
		ticks  []impl.Tick
		choice []int64
		want   int64
	}{
		{nil, nil, 0},
		{row, nil, 0},
		{row, []int64{0}, 1},
		{row, []int64{1}, 11},
		{row, []int64{2}, 21},
		{row, []int64{3}, 31},
		{row, []int64{4}, 41},
		{row, []int64{0, 4}, 42},
		{row, []int64{1, 2, 3}, 63},
		{row, []int64{0, 1, 2, 3, 4}, 105},
		{labels(1111, 400, 2, 1000, maxLength, 2), []int64{0, 1}, 42}, // its length does not matter
		{manyLabels(maxLabels), []int64{39}, 41},
	}
	for _, c := range cases {
		checkNumber(t, "WorthOf", c.want, impl.ErrNone)(impl.WorthOf(c.ticks, c.choice))
	}
}

// bestExamples are ticks with the least proof, the best choice and the greedy choice.
var bestExamples = []struct {
	ticks               []impl.Tick
	proof, best, greedy []int64
}{
	{nil, []int64{0}, nil, nil},
	{digitsAt(0, 0), []int64{0, 1}, []int64{0}, []int64{0}},
	{digitsAt(0, 4, 100, 4, 200, 4), []int64{0, 41, 41, 82}, []int64{0, 2}, []int64{0, 2}},
	{digitsAt(0, 0, 120, 0, 240, 0), []int64{0, 1, 2, 3}, []int64{0, 1, 2}, []int64{0, 1, 2}},
	// The greater height in the middle costs both of its neighbours.
	{digitsAt(0, 3, 100, 4, 200, 3), []int64{0, 31, 41, 62}, []int64{0, 2}, []int64{1}},
	{digitsAt(0, 1, 100, 4, 200, 1), []int64{0, 11, 41, 41}, []int64{1}, []int64{1}},
	{digitsAt(0, 1, 119, 2, 239, 0), []int64{0, 11, 21, 22}, []int64{1, 2}, []int64{1, 2}},
	// The same place, and the same worth: the first one in the order of the proof.
	{digitsAt(50, 2, 50, 2, 50, 2), []int64{0, 21, 21, 21}, []int64{0}, []int64{0}},
	{digitsAt(50, 1, 50, 2, 50, 2), []int64{0, 11, 21, 21}, []int64{1}, []int64{1}},
	{digitsAt(50, 2, 50, 3, 50, 1), []int64{0, 21, 31, 31}, []int64{1}, []int64{1}},
	{digitsAt(110, 2, 50, 2), []int64{0, 21, 21}, []int64{1}, []int64{0}}, // the left one, and the first one
	// Equal right ends of different labels: the indices decide.
	{labels(1000, 180, 2, 1100, 120, 2), []int64{0, 21, 21}, []int64{0}, []int64{0}},
	{labels(1100, 120, 2, 1000, 180, 2), []int64{0, 21, 21}, []int64{0}, []int64{0}},
	{labels(1000, 180, 2, 1100, 120, 2, 3000, 60, 0), []int64{0, 1, 22, 22}, []int64{0, 2}, []int64{0, 2}},
	{labels(1100, 120, 2, 1000, 180, 2, 3000, 60, 0), []int64{0, 1, 21, 22}, []int64{1, 2}, []int64{0}},
	// Right ends decide, not places: the one that stands farther to the left ends farther to the right.
	{labels(1111, 300, 0, 2000, 310, 0), []int64{0, 1, 1}, []int64{1}, []int64{0}},
	{labels(2000, 310, 1, 1111, 300, 0), []int64{0, 11, 11}, []int64{0}, []int64{0}},
	// A long label costs the short ones that it covers.
	{labels(1111, 300, 1, 2000, 100, 0, 3000, 220, 0, 4000, 340, 0, 5000, 460, 0), []int64{0, 1, 2, 3, 4, 11}, []int64{0}, []int64{0}},
	{labels(1111, 300, 0, 2000, 100, 0, 3000, 220, 0, 4000, 340, 0, 5000, 460, 0), []int64{0, 1, 2, 3, 4, 4}, []int64{1, 2, 3, 4}, []int64{0}},
	// From right to left: the indices of a choice increase all the same.
	{digitsAt(960, 0, 720, 1, 480, 2, 240, 3, 0, 4), []int64{0, 41, 72, 93, 104, 105}, []int64{0, 1, 2, 3, 4}, []int64{0, 1, 2, 3, 4}},
	{digitsAt(200, 4, 100, 4, 0, 4), []int64{0, 41, 41, 82}, []int64{0, 2}, []int64{0, 2}},
	{digitsAt(300, 4, 200, 4, 100, 4, 0, 4), []int64{0, 41, 41, 82, 82}, []int64{1, 3}, []int64{0, 2}},
	{digitsAt(0, 4, 100, 4, 200, 4, 300, 4), []int64{0, 41, 41, 82, 82}, []int64{0, 2}, []int64{0, 2}},
	{digitsAt(maxLength, 4, 0, 0, maxLength-119, 3), []int64{0, 1, 32, 42}, []int64{0, 1}, []int64{0, 1}},
}

func TestBestChoiceExamples(t *testing.T) {
	for _, c := range bestExamples {
		checkList(t, "LabelProof", c.proof, impl.ErrNone)(impl.LabelProof(c.ticks))
		checkList(t, "BestChoice", c.best, impl.ErrNone)(impl.BestChoice(c.ticks))
		checkNumber(t, "WorthOf", c.proof[len(c.ticks)], impl.ErrNone)(impl.WorthOf(c.ticks, c.best))
	}
}

func TestGreedyChoiceExamples(t *testing.T) {
	for _, c := range bestExamples {
		checkList(t, "GreedyChoice", c.greedy, impl.ErrNone)(impl.GreedyChoice(c.ticks))
	}
}

func TestIsProofExamples(t *testing.T) {
	row := digitsAt(0, 4, 100, 4, 200, 4)
	cases := []struct {
		ticks []impl.Tick
		v     []int64
		want  bool
	}{
		{nil, []int64{0}, true},
		{nil, nil, false},
		{nil, []int64{}, false},
		{nil, []int64{1}, false},
		{nil, []int64{-1}, false},
		{nil, []int64{0, 0}, false},
		{row, []int64{0, 41, 41, 82}, true},
		{row, []int64{0, 41, 41, 81}, false},
		{row, []int64{0, 41, 40, 82}, false}, // less than the one before it
		{row, []int64{0, 40, 41, 82}, false},
		{row, []int64{1, 42, 42, 83}, false}, // v[0] is not 0
		{row, []int64{-1, 41, 41, 82}, false},
		{row, []int64{0, 41, 41, 83}, true}, // not the least one
		{row, []int64{0, 41, 50, 82}, true},
		{row, []int64{0, 41, 83, 82}, false},
		{row, []int64{0, 42, 42, 83}, true},
		{row, []int64{0, 42, 42, 82}, false}, // the numbers before count, not the least ones
		{row, []int64{0, 1000, 1000, 1040}, false},
		{row, []int64{0, 1000, 1000, 1041}, true},
		{row, []int64{0, 41, 1000, 1000}, true},
		{row, nil, false},
		{row, []int64{0}, false},
		{row, []int64{0, 41, 41}, false},
		{row, []int64{0, 41, 41, 82, 82}, false},
		{row, []int64{0, 41, 41, 82, 0}, false},
		{row, []int64{0, 0, 0, 0}, false},
		{row, []int64{0, limit, limit, limit}, false},
		{row, []int64{0, limit - 41, limit - 41, limit}, true},
		{row, []int64{0, limit - 40, limit - 40, limit}, false},
		{row, []int64{0, limit - 40, limit - 40, limit + 1}, false},
		{row, []int64{0, 41, limit, limit}, true},
		{row, []int64{0, 41, limit, limit + 1}, false},
		{row, []int64{0, 41, limit + 1, limit + 1}, false},
		{row, []int64{0, 41, 41, limit}, true},
		{row, []int64{0, 41, 41, limit + 1}, false},
		{row, []int64{0, limit + 1, limit + 1, limit + 42}, false},
		{row, []int64{0, math.MaxInt64, math.MaxInt64, math.MaxInt64}, false},
		{row, []int64{0, math.MaxInt64, math.MaxInt64, math.MinInt64 + 40}, false},
		{row, []int64{0, 41, 41, math.MaxInt64}, false},
		{row, []int64{0, 41, 41, math.MinInt64}, false},
		{row, []int64{0, math.MinInt64, 41, 82}, false},
		{row, []int64{0, -41, 41, 82}, false},
		// In the order of right ends.
		{digitsAt(200, 4, 100, 3, 0, 1), []int64{0, 11, 31, 52}, true},
		{digitsAt(200, 4, 100, 3, 0, 1), []int64{0, 41, 41, 52}, false},
		{digitsAt(200, 4, 100, 3, 0, 1), []int64{0, 11, 31, 51}, false},
		// Two end at the same place: k counts both of them for the third one.
		{labels(1000, 180, 0, 1100, 120, 1, 3000, 300, 0), []int64{0, 1, 11, 12}, true},
		{labels(1000, 180, 0, 1100, 120, 1, 3000, 300, 0), []int64{0, 1, 11, 11}, false},
		{labels(1000, 180, 0, 1100, 120, 1, 3000, 299, 0), []int64{0, 1, 11, 11}, true},
		{labels(1000, 180, 0, 1100, 120, 1, 3000, 299, 0), []int64{0, 0, 11, 11}, false},
	}
	for _, c := range cases {
		checkBool(t, "IsProof", c.want, impl.ErrNone)(impl.IsProof(c.ticks, c.v))
	}
}

// All lists of up to three ticks of a small rule are tried, with all of their choices.
func TestAllSmallListsOfLabels(t *testing.T) {
	const places, marks, heights = 7, 2, 2
	for count, total := 0, 1; count < 4; count, total = count+1, total*places*marks*heights {
		for number := range total {
			ticks, rest := make([]impl.Tick, count), number
			for i := range ticks {
				ticks[i] = tick(letters[1+rest%marks], int64(rest/marks%places)*60, int64(rest/marks/places%heights))
				rest /= places * marks * heights
			}
			checkChoices(t, ticks)
		}
	}
}

func TestAllShortListsOfIndices(t *testing.T) {
	lists := [][]int64{nil}
	for n := 0; len(lists[n]) < 4; n++ {
		for i := int64(-1); i <= 4; i++ {
			lists = append(lists, append(slices.Clone(lists[n]), i))
		}
	}
	for _, ticks := range [][]impl.Tick{
		nil, digitsAt(0, 4), digitsAt(0, 4, 120, 3), digitsAt(0, 4, 119, 3), digitsAt(0, 0, 120, 1, 239, 2, 359, 3), digitsAt(359, 0, 0, 1, 239, 2, 120, 3), manyLabels(4),
	} {
		for _, list := range lists {
			is := definedIsChoice(ticks, list)
			checkBool(t, "IsChoice", is, impl.ErrNone)(impl.IsChoice(ticks, list))
			if is {
				checkNumber(t, "WorthOf", definedWorth(ticks, list...), impl.ErrNone)(impl.WorthOf(ticks, list))
			} else {
				checkNumber(t, "WorthOf", 0, impl.ErrState)(impl.WorthOf(ticks, list))
			}
		}
	}
}

// Promise 9: the best choice of labels has the worth that the least proof ends with, and no choice
// has more.

func TestBestChoiceHasTheWorthOfTheLeastProof(t *testing.T) {
	for _, ticks := range someLabels() {
		checkChoices(t, ticks)
	}
}

func TestBestChoiceOfRulesHasTheWorthOfTheLeastProof(t *testing.T) {
	for _, scale := range allScales {
		for _, length := range []int64{1, 600, 2500, 12500, maxLength} {
			for _, step := range []int64{1000, 500, 250, 100, 50, 25, 10, 1} {
				for _, from := range []int64{1000, 1200, 3100, 9900} {
					ticks, code := impl.TicksOf(parts(1000, step), scale, length, from, min(from+39*step, 9999))
					if len(ticks) > maxLabels || code != impl.ErrNone {
						t.Fatal("TicksOf", len(ticks), code)
					}
					checkChoices(t, ticks)
				}
			}
		}
	}
}

func TestNoChoiceHasMoreThanTheBestOne(t *testing.T) {
	for _, ticks := range someLabels() {
		if len(ticks) > 10 {
			continue
		}
		v, _ := impl.LabelProof(ticks)
		greatest := int64(0)
		for set := range 1 << len(ticks) {
			var choice []int64
			for i := range ticks {
				if set>>i&1 == 1 {
					choice = append(choice, int64(i))
				}
			}
			is := definedIsChoice(ticks, choice)
			checkBool(t, "IsChoice", is, impl.ErrNone)(impl.IsChoice(ticks, choice))
			if is {
				worth, code := impl.WorthOf(ticks, choice)
				checkNumber(t, "WorthOf", definedWorth(ticks, choice...), impl.ErrNone)(worth, code)
				greatest = max(greatest, worth)
			}
		}
		if greatest != v[len(ticks)] || greatest != greatestWorth(ticks) {
			t.Errorf("%v: the greatest worth is %d, not %d", ticks, greatest, v[len(ticks)])
		}
	}
}

// No number of the least proof can be less, and the last one of any proof is at least the worth of
// every choice.
func TestProofsFollowTheirDefinition(t *testing.T) {
	next := randomNumbers(99)
	for _, ticks := range someLabels() {
		least, _ := impl.LabelProof(ticks)
		for i := range least {
			for _, change := range []int64{-1, 1, -41, 41, limit, math.MinInt64, limit - least[i], limit - least[i] + 1} {
				v := slices.Clone(least)
				v[i] += change
				checkIsProof(t, ticks, v)
			}
			checkIsProof(t, ticks, least[:i])
			checkIsProof(t, ticks, least[i:])
		}
		for range 60 {
			v, more, highest := slices.Clone(least), int64(0), 1+next(50)
			for i := range v {
				if i > 0 && next(4) == 0 {
					more += next(highest)
				}
				v[i] += more - next(20)/19
			}
			v[0] = 0
			checkIsProof(t, ticks, v)
		}
	}
}

func TestListsWithTooManyLabels(t *testing.T) {
	for _, count := range []int{maxLabels + 1, maxLabels + 2, 2 * maxLabels, maxTicks, 5000} {
		ticks := manyLabels(count)
		checkLabelErrors(t, ticks, impl.ErrLimit)
		// This comes before errors of ranges, wherever they are.
		for _, i := range []int{0, maxLabels - 1, maxLabels, count - 1} {
			for _, spoilt := range []impl.Tick{tick(999, 0, 0), tick(1000, -1, 0), tick(1000, 0, 5), tick(10000, maxLength+1, -1)} {
				many := slices.Clone(ticks)
				many[i] = spoilt
				checkLabelErrors(t, many, impl.ErrLimit)
			}
		}
	}
}

func TestTicksThatHaveNoLabels(t *testing.T) {
	var bad []impl.Tick
	for _, mark := range noDigits {
		bad = append(bad, tick(mark, 0, 0))
	}
	for _, place := range noDistances {
		bad = append(bad, tick(1000, place, 0))
	}
	for _, height := range noHeights {
		bad = append(bad, tick(1000, 0, height))
	}
	for _, k := range append(bad, tick(0, -1, -1), tick(10000, maxLength+1, 5)) {
		checkLabelText(t, k, "", impl.ErrRange)
		checkBool(t, "DoCollide", false, impl.ErrRange)(impl.DoCollide(k, tick(1000, 0, 0)))
		checkBool(t, "DoCollide", false, impl.ErrRange)(impl.DoCollide(tick(1000, 0, 0), k))
		checkBool(t, "DoCollide", false, impl.ErrRange)(impl.DoCollide(k, k))
		for _, count := range []int{1, 2, 3, maxLabels} {
			for _, i := range []int{0, count / 2, count - 1} {
				ticks := manyLabels(count)
				ticks[i] = k
				checkLabelErrors(t, ticks, impl.ErrRange)
			}
		}
	}
}

func TestBoundsOfTicksThatHaveLabels(t *testing.T) {
	for _, mark := range []int64{1000, 1001, 9999} {
		for _, place := range []int64{0, 1, maxLength} {
			for height := range int64(5) {
				k := tick(mark, place, height)
				checkLabelText(t, k, strings.TrimRight(strconv.FormatInt(mark, 10), "0"), impl.ErrNone)
				checkBool(t, "DoCollide", true, impl.ErrNone)(impl.DoCollide(k, k))
				checkNumber(t, "WorthOf", 1+10*height, impl.ErrNone)(impl.WorthOf([]impl.Tick{k}, []int64{0}))
				checkChoices(t, []impl.Tick{k})
			}
		}
	}
	ticks := manyLabels(maxLabels)
	var all []int64
	for i := range ticks {
		all = append(all, int64(i))
	}
	checkNumber(t, "WorthOf", 840, impl.ErrNone)(impl.WorthOf(ticks, all))
	checkList(t, "BestChoice", all, impl.ErrNone)(impl.BestChoice(ticks))
	checkList(t, "GreedyChoice", all, impl.ErrNone)(impl.GreedyChoice(ticks))
	checkBool(t, "IsChoice", false, impl.ErrNone)(impl.IsChoice(ticks, append(all, maxLabels)))
}

func TestLabelsShareNoMemory(t *testing.T) {
	backing := digitsAt(300, 4, 200, 4, 100, 4, 0, 4, 7, 1, 8, 2)
	choices, proofs := []int64{0, 2, 3, 4}, []int64{0, 41, 41, 82, 82, 9, 9}
	ticks, kept := backing[:4], slices.Clone(backing)
	for _, spoil := range []func(){
		func() { list, _ := impl.BestChoice(ticks); spoilList(list) },
		func() { list, _ := impl.LabelProof(ticks); spoilList(list) },
		func() { list, _ := impl.GreedyChoice(ticks); spoilList(list) },
		func() { list, _ := impl.LabelProof(nil); spoilList(list) },
		func() { impl.LabelText(ticks[0]); impl.DoCollide(ticks[0], ticks[1]) },
		func() {
			impl.IsChoice(ticks, choices[:2])
			impl.WorthOf(ticks, choices[:2])
			impl.IsProof(ticks, proofs[:5])
		},
		func() {
			impl.IsProof(ticks, proofs[:3])
			impl.IsProof(ticks[:2], proofs[:3])
			impl.IsChoice(ticks, choices)
		},
	} {
		spoil()
		checkList(t, "BestChoice", []int64{1, 3}, impl.ErrNone)(impl.BestChoice(ticks))
		checkList(t, "LabelProof", []int64{0, 41, 41, 82, 82}, impl.ErrNone)(impl.LabelProof(ticks))
		checkList(t, "GreedyChoice", []int64{0, 2}, impl.ErrNone)(impl.GreedyChoice(ticks))
		checkBool(t, "IsProof", true, impl.ErrNone)(impl.IsProof(ticks, proofs[:5]))
		checkNumber(t, "WorthOf", 82, impl.ErrNone)(impl.WorthOf(ticks, choices[:2]))
		checkList(t, "LabelProof", []int64{0}, impl.ErrNone)(impl.LabelProof(nil))
	}
	if !slices.Equal(backing, kept) || !slices.Equal(choices, []int64{0, 2, 3, 4}) || !slices.Equal(proofs, []int64{0, 41, 41, 82, 82, 9, 9}) {
		t.Error("an argument has been changed:", backing, choices, proofs)
	}
}

func definedEnds(k impl.Tick) (left, right int64) {
	half := int64(240)
	for n := k.Mark; n%10 == 0; n /= 10 {
		half -= 60
	}
	return k.Place - half, k.Place + half
}

func definedCollide(a, b impl.Tick) bool {
	left, right := definedEnds(a)
	from, to := definedEnds(b)
	return min(right, to) > max(left, from)
}

func definedIsChoice(ticks []impl.Tick, choice []int64) bool {
	for _, i := range choice {
		if i < 0 || i >= int64(len(ticks)) {
			return false
		}
	}
	for n, i := range choice {
		for _, j := range choice[n+1:] {
			if i >= j || definedCollide(ticks[i], ticks[j]) {
				return false
			}
		}
	}
	return true
}

func definedWorth(ticks []impl.Tick, choice ...int64) int64 {
	sum := int64(len(choice))
	for _, i := range choice {
		sum += 10 * ticks[i].Height
	}
	return sum
}

// definedSteps returns the indices of the ticks in the order of a proof, and the numbers k.
func definedSteps(ticks []impl.Tick) (order, before []int64) {
	for i := range ticks {
		order = append(order, int64(i))
	}
	slices.SortFunc(order, func(i, j int64) int {
		_, a := definedEnds(ticks[i])
		_, b := definedEnds(ticks[j])
		if a != b {
			return int(a - b)
		}
		return int(i - j)
	})
	for _, i := range order {
		left, _ := definedEnds(ticks[i])
		k := slices.IndexFunc(order, func(j int64) bool { _, right := definedEnds(ticks[j]); return right > left })
		before = append(before, int64(k))
	}
	return order, before
}

func definedProof(ticks []impl.Tick) []int64 {
	order, before := definedSteps(ticks)
	v := make([]int64, 1, len(ticks)+1)
	for n, i := range order {
		v = append(v, max(v[n], definedWorth(ticks, i)+v[before[n]]))
	}
	return v
}

func definedIsProof(ticks []impl.Tick, v []int64) bool {
	order, before := definedSteps(ticks)
	if len(v) != len(ticks)+1 || v[0] != 0 || !slices.IsSorted(v) || v[len(ticks)] > 1000000000000 {
		return false
	}
	for n, i := range order {
		if v[n+1]-v[before[n]] < definedWorth(ticks, i) {
			return false
		}
	}
	return true
}

func definedBest(ticks []impl.Tick) []int64 {
	order, before := definedSteps(ticks)
	v := definedProof(ticks)
	var best []int64
	for i := int64(len(ticks)); i > 0; {
		if v[i] == v[i-1] {
			i--
		} else {
			best = append(best, order[i-1])
			i = before[i-1]
		}
	}
	slices.Sort(best)
	return best
}

// greatestWorth looks for the greatest worth of labels that follow each other from right to left,
// without a proof.
func greatestWorth(ticks []impl.Tick) int64 {
	order := slices.Clone(ticks)
	slices.SortFunc(order, func(a, b impl.Tick) int {
		left, _ := definedEnds(a)
		other, _ := definedEnds(b)
		return int(other - left)
	})
	worths, greatest := make([]int64, len(order)), int64(0)
	for i, k := range order {
		_, right := definedEnds(k)
		for j := range i {
			if left, _ := definedEnds(order[j]); left >= right {
				worths[i] = max(worths[i], worths[j])
			}
		}
		worths[i] += definedWorth(order, int64(i))
		greatest = max(greatest, worths[i])
	}
	return greatest
}

// checkChoices compares all that is found for ticks with the definitions, and with the guarantee.
func checkChoices(t *testing.T, ticks []impl.Tick) {
	t.Helper()
	v, code := impl.LabelProof(ticks)
	checkList(t, "LabelProof", definedProof(ticks), impl.ErrNone)(v, code)
	checkBool(t, "IsProof", true, impl.ErrNone)(impl.IsProof(ticks, v))
	best, code := impl.BestChoice(ticks)
	checkList(t, "BestChoice", definedBest(ticks), impl.ErrNone)(best, code)
	checkBool(t, "IsChoice", true, impl.ErrNone)(impl.IsChoice(ticks, best))
	worth, code := impl.WorthOf(ticks, best)
	checkNumber(t, "WorthOf", greatestWorth(ticks), impl.ErrNone)(worth, code)
	if len(v) != len(ticks)+1 || worth != v[len(ticks)] {
		t.Errorf("%v: the worth of the best choice is %d, and the proof is %v", ticks, worth, v)
	}
	greedy, code := impl.GreedyChoice(ticks)
	checkList(t, "GreedyChoice", definedHighest(ticks, definedCollide), impl.ErrNone)(greedy, code)
	checkBool(t, "IsChoice", true, impl.ErrNone)(impl.IsChoice(ticks, greedy))
	checkNumber(t, "WorthOf", definedWorth(ticks, greedy...), impl.ErrNone)(impl.WorthOf(ticks, greedy))
	if definedWorth(ticks, greedy...) > worth {
		t.Errorf("%v: the greedy choice has more worth than %d", ticks, worth)
	}
}

func checkIsProof(t *testing.T, ticks []impl.Tick, v []int64) {
	t.Helper()
	is := definedIsProof(ticks, v)
	checkBool(t, "IsProof", is, impl.ErrNone)(impl.IsProof(ticks, v))
	if is && v[len(ticks)] < greatestWorth(ticks) {
		t.Errorf("%v: %v is less than the worth of a choice", ticks, v)
	}
}

func checkLabelText(t *testing.T, k impl.Tick, want string, wantCode int64) {
	t.Helper()
	if s, code := impl.LabelText(k); s != want || code != wantCode {
		t.Errorf("LabelText(%v) = %q, %d; want %q, %d", k, s, code, want, wantCode)
	}
}

// checkLabelErrors expects an error that every function finds, before those of its other argument.
func checkLabelErrors(t *testing.T, ticks []impl.Tick, want int64) {
	t.Helper()
	for _, list := range [][]int64{nil, {0}, {0, 1}, {1, 0}, {-1}, {int64(len(ticks))}, {math.MaxInt64}, make([]int64, len(ticks)+1)} {
		checkBool(t, "IsChoice", false, want)(impl.IsChoice(ticks, list))
		checkNumber(t, "WorthOf", 0, want)(impl.WorthOf(ticks, list))
		checkBool(t, "IsProof", false, want)(impl.IsProof(ticks, list))
	}
	checkList(t, "BestChoice", nil, want)(impl.BestChoice(ticks))
	checkList(t, "LabelProof", nil, want)(impl.LabelProof(ticks))
	checkList(t, "GreedyChoice", nil, want)(impl.GreedyChoice(ticks))
}
