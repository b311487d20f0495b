package tests

import (
	"math/big"
	"regexp"
	"slices"
	"strconv"
	"strings"
	"testing"

	"loop.example/g00951/impl"
)

const maxTerms = impl.MaxTerms

func times(f impl.Figure) impl.Term  { return impl.Term{Figure: f} }
func divide(f impl.Figure) impl.Term { return impl.Term{Figure: f, Divide: true} }

// chain reads texts without the program.
func chain(s string) []impl.Term {
	c, ok := grammarChain(s)
	if !ok {
		panic("no chain: " + s)
	}
	return c
}

func manyTerms(count int, k impl.Term) []impl.Term {
	return slices.Repeat([]impl.Term{k}, count)
}

// someChains have all lengths, and for each length all ways to divide, with figures that differ
// within a chain.
func someChains() [][]impl.Term {
	var list [][]impl.Term
	random := randomNumbers(13)
	for length := 1; length <= maxTerms; length++ {
		for pattern := range 1 << (length - 1) {
			c := make([]impl.Term, length)
			for i := range c {
				f := figure(1000+1500*int64(i)+random(1500), random(9)-4)
				c[i] = impl.Term{Figure: f, Divide: i > 0 && pattern>>(i-1)&1 == 1}
			}
			list = append(list, c)
		}
	}
	return list
}

// randomChain has figures with Tens up to a limit, on both sides of 0.
func randomChain(random func(int64) int64, tens int64) []impl.Term {
	c := make([]impl.Term, 1+random(maxTerms))
	for i := range c {
		digits := someDigits[random(int64(len(someDigits)))]
		if random(2) == 0 {
			digits = 1000 + random(9000)
		}
		c[i] = impl.Term{Figure: figure(digits, random(2*tens+1)-tens), Divide: i > 0 && random(2) == 0}
	}
	return c
}

// noChains have no terms, too many terms, a wrong figure, or a first term with Divide, or more
// than one of these.
func noChains() [][]impl.Term {
	two := figure(2000, 0)
	list := [][]impl.Term{nil, {}}
	for _, k := range []impl.Term{times(two), divide(two), times(none), divide(none), times(figure(10000, 31))} {
		for _, count := range []int{maxTerms + 1, maxTerms + 2, 2 * maxTerms, 100, 100000} {
			list = append(list, manyTerms(count, k))
		}
	}
	for _, count := range []int{1, 2, 3, 5, maxTerms, maxTerms + 1} {
		list = append(list, manyTerms(count, divide(two)), append([]impl.Term{divide(two)}, manyTerms(count-1, times(two))...))
		for _, f := range noFigures {
			for wrong := range count {
				for _, kind := range []func(impl.Figure) impl.Term{times, divide} {
					c := manyTerms(count, times(two))
					c[wrong] = kind(f)
					list = append(list, c)
				}
			}
		}
	}
	return list
}

func TestConstantsOfChapter13(t *testing.T) {
	if maxTerms != 6 {
		t.Error("MaxTerms", maxTerms)
	}
}

func TestIsChain(t *testing.T) {
	good := someChains()
	for _, f := range []impl.Figure{figure(1000, 0), figure(9999, 0), figure(1000, 30), figure(9999, 30), figure(1000, -30), figure(9999, -30)} {
		for count := 1; count <= maxTerms; count++ {
			good = append(good, manyTerms(count, times(f)), append([]impl.Term{times(f)}, manyTerms(count-1, divide(f))...))
		}
	}
	for _, c := range good {
		if !impl.IsChain(c) {
			t.Error(c, "is a chain")
		}
	}
	for _, c := range noChains() {
		if impl.IsChain(c) {
			t.Error(len(c), "terms are no chain:", c[:min(len(c), maxTerms+1)])
		}
	}
}

func TestChainLogExamples(t *testing.T) {
	for _, c := range []struct {
		text string
		want impl.Interval
	}{
		{"1.000e0", interval(0, 1)},
		{"2.000e0", interval(315652, 315653)},
		{"2.000e-1", interval(315652-decade, 315653-decade)},
		{"2.000e0*3.000e0", interval(815949, 815951)},
		{"2.000e0/3.000e0", interval(-184646, -184644)},
		{"1.000e0/1.000e0", interval(-1, 1)},
		{"2.000e0*3.000e0/6.000e0", interval(-2, 1)},
		{"1.000e0/3.000e0*3.000e0", interval(-1, 2)},
		{"3.142e0*2.500e1*2.500e1", interval(3453050, 3453053)},
		{"1.234e0*5.678e0/9.012e0*3.456e0/7.890e0*1.235e0", interval(-394422, -394416)},
		{"1.000e-30", interval(-30*decade, -30*decade+1)},
		{"9.999e30*9.999e30*9.999e30*9.999e30*9.999e30*9.999e30", interval(195034860, 195034866)},
		{"1.000e-30/9.999e30/9.999e30/9.999e30/9.999e30/9.999e30", interval(-193986335, -193986329)},
	} {
		checkInterval(t, "ChainLog "+c.text, c.want, impl.ErrNone)(impl.ChainLog(chain(c.text)))
	}
}

func TestChainSpanExamples(t *testing.T) {
	for _, c := range []struct {
		text      string
		low, high impl.Figure
		code      int64
	}{
		{"2.000e0*3.000e0/6.000e0", figure(9999, -1), figure(1001, 0), impl.ErrNone},
		{"1.000e0/3.000e0", figure(3333, -1), figure(3334, -1), impl.ErrNone},
		{"3.142e0*2.500e1*2.500e1", figure(1963, 3), figure(1964, 3), impl.ErrNone},
		{"2.000e0*2.000e0*2.000e0*2.000e0*2.000e0*2.000e0", figure(6399, 1), figure(6401, 1), impl.ErrNone},
		{"1.000e30*1.000e30/1.000e30/1.000e30", figure(9999, -1), figure(1001, 0), impl.ErrNone},
		// The High of the logarithm is one less than the limit, at it, and one more.
		{"1.002e15*9.980e14", figure(9999, 29), figure(1000, 30), impl.ErrNone},
		{"1.110e15*9.009e14", figure(9999, 29), figure(1000, 30), impl.ErrNone},
		{"1.001e15*9.990e14", none, none, impl.ErrRange},
		{"1.000e30", none, none, impl.ErrRange},
		{"9.999e30*9.999e30", none, none, impl.ErrRange},
		// The Low is two and one more than the limit, at it, where there is no figure below, and one less.
		{"1.014e-15*9.862e-16", figure(1000, -30), figure(1001, -30), impl.ErrNone},
		{"1.060e-15*9.434e-16", figure(1000, -30), figure(1001, -30), impl.ErrNone},
		{"1.010e-15*9.901e-16", none, none, impl.ErrNotFound},
		{"1.000e-30", none, none, impl.ErrNotFound},
		{"1.000e-30*1.000e0", none, none, impl.ErrNotFound},
		{"1.001e-15*9.990e-16", none, none, impl.ErrRange},
		{"1.000e-30/1.000e0", none, none, impl.ErrRange},
		{"1.000e-30/9.999e30", none, none, impl.ErrRange},
	} {
		checkSpan(t, "ChainSpan "+c.text, c.low, c.high, c.code)(impl.ChainSpan(chain(c.text)))
	}
}

func TestChainFigureExamples(t *testing.T) {
	for _, c := range []struct {
		text string
		want impl.Figure
	}{
		{"6.667e-1", figure(6667, -1)},
		{"9.999e30", figure(9999, 30)},
		{"1.000e-30", figure(1000, -30)},
		{"2.000e0*3.000e0/6.000e0", figure(1000, 0)},
		{"2.000e0*3.000e0/6.000e0/3.000e0", figure(3333, -1)},
		// Each step is rounded, so that the order matters.
		{"1.000e0/3.000e0*3.000e0", figure(9999, -1)},
		{"1.000e0*3.000e0/3.000e0", figure(1000, 0)},
		{"1.001e0*9.990e0/1.001e0/9.990e0", figure(1000, 0)},
		{"1.001e0/9.990e0*9.990e0", figure(1001, 0)},
		{"3.142e0*2.500e1*2.500e1", figure(1964, 3)},
		// These are halfway between two figures, at one step or at two.
		{"1.250e0*1.002e0", figure(1253, 0)},
		{"2.001e0/2.000e0", figure(1001, 0)},
		{"2.001e0/2.000e0*2.500e0", figure(2503, 0)},
		// These become 10000 by rounding.
		{"1.001e0*9.990e0", figure(1000, 1)},
		{"1.001e0*9.990e0*1.001e0", figure(1001, 1)},
		{"1.234e0*5.678e0/9.012e0*3.456e0/7.890e0*1.235e0", figure(4206, -1)},
		// Steps reach both limits, and come back.
		{"1.000e15*9.999e15/9.999e15", figure(1000, 15)},
		{"1.000e30/1.000e30*1.000e30", figure(1000, 30)},
		{"1.000e-15*1.000e-15/1.000e-30*1.000e30", figure(1000, 30)},
		{"1.000e-15/2.000e14*2.000e0", figure(1000, -29)},
	} {
		checkFigure(t, "ChainFigure "+c.text, c.want, impl.ErrNone)(impl.ChainFigure(chain(c.text)))
	}
}

func TestChainFigureErrors(t *testing.T) {
	for _, text := range []string{
		"1.000e30*1.000e1", "5.000e30*2.000e0", "1.001e30*9.990e0", "1.000e-30*9.999e-1", "1.000e-30/1.001e0", "1.000e30/1.000e-1",
		"9.999e30*9.999e30*9.999e30*9.999e30*9.999e30*9.999e30", "1.000e-30/9.999e30/9.999e30/9.999e30/9.999e30/9.999e30",
		// The result would be in range again.
		"1.000e30*1.000e30/1.000e30", "1.000e30*1.000e1/1.000e1", "5.000e30*2.000e0/2.000e0", "1.000e-30/1.001e0*1.001e0", "1.000e-30*1.000e-30*1.000e30*1.000e30",
		// Only the last step is out of range.
		"1.000e10*1.000e10*1.000e10*1.000e0*1.000e0*1.000e1", "1.000e0/1.000e10/1.000e10/1.000e10/1.000e0/1.001e0",
	} {
		checkFigure(t, "ChainFigure "+text, none, impl.ErrLimit)(impl.ChainFigure(chain(text)))
	}
}

func TestChainsFollowTheirDefinition(t *testing.T) {
	random := randomNumbers(113)
	list := someChains()
	for range 400 {
		list = append(list, randomChain(random, 0), randomChain(random, 3), randomChain(random, 12), randomChain(random, 30))
	}
	codes := map[int64]int{}
	for _, c := range list {
		_, code := impl.ChainFigure(c)
		codes[code]++
		checkChainNumbers(t, c)
	}
	if codes[impl.ErrNone] < 1000 || codes[impl.ErrLimit] < 100 {
		t.Error("too few chains have a figure, or too few have none:", codes)
	}
}

func TestChainLogsContainTheTrueValue(t *testing.T) {
	random := randomNumbers(213)
	list := someChains()
	for range 400 {
		list = append(list, randomChain(random, 30))
	}
	for _, c := range list {
		n, d, tens := big.NewInt(1), big.NewInt(1), int64(0)
		for _, k := range c {
			if k.Divide {
				d.Mul(d, big.NewInt(k.Figure.Digits))
				tens -= k.Figure.Tens - 3
			} else {
				n.Mul(n, big.NewInt(k.Figure.Digits))
				tens += k.Figure.Tens - 3
			}
		}
		a, code := impl.ChainLog(c)
		if code != impl.ErrNone {
			t.Errorf("ChainLog %s: %d", definedChainText(c), code)
		}
		checkContains(t, "ChainLog "+definedChainText(c), a, exactLogOf(n, d, tens))
	}
}

func TestChainsOfTwoTermsAreProductsAndQuotients(t *testing.T) {
	for _, m := range someDigits {
		for _, n := range someDigits {
			for _, tens := range [][2]int64{{0, 0}, {-1, 1}, {14, 15}, {-15, -15}, {30, -30}, {30, 30}} {
				a, b := figure(m, tens[0]), figure(n, tens[1])
				product, quotient := []impl.Term{times(a), times(b)}, []impl.Term{times(a), divide(b)}
				f, code := impl.MultiplyFigures(a, b)
				checkFigure(t, "ChainFigure", f, code)(impl.ChainFigure(product))
				f, code = impl.DivideFigures(a, b)
				checkFigure(t, "ChainFigure", f, code)(impl.ChainFigure(quotient))
				low, high, code := impl.ProductSpan(a, b)
				checkSpan(t, "ChainSpan", low, high, code)(impl.ChainSpan(product))
				low, high, code = impl.QuotientSpan(a, b)
				checkSpan(t, "ChainSpan", low, high, code)(impl.ChainSpan(quotient))
			}
		}
	}
}

func TestSwapTermsExamples(t *testing.T) {
	for _, c := range []struct {
		text string
		a, b int64
		want string
	}{
		{"2.000e0", 0, 0, "2.000e0"},
		{"2.000e0*3.000e0/6.000e0", 0, 1, "3.000e0*2.000e0/6.000e0"},
		{"2.000e0*3.000e0/6.000e0", 1, 0, "3.000e0*2.000e0/6.000e0"},
		// Divide goes with its figure.
		{"2.000e0*3.000e0/6.000e0", 1, 2, "2.000e0/6.000e0*3.000e0"},
		{"2.000e0*3.000e0/6.000e0", 2, 1, "2.000e0/6.000e0*3.000e0"},
		{"2.000e0*3.000e0/6.000e0", 2, 2, "2.000e0*3.000e0/6.000e0"},
		{"2.000e0/3.000e0/6.000e0", 0, 0, "2.000e0/3.000e0/6.000e0"},
		{"2.000e0/3.000e0/6.000e0", 1, 2, "2.000e0/6.000e0/3.000e0"},
		{"1.000e0/2.000e0*3.000e0/4.000e0*5.000e0*6.000e0", 0, 5, "6.000e0/2.000e0*3.000e0/4.000e0*5.000e0*1.000e0"},
		{"1.000e0/2.000e0*3.000e0/4.000e0*5.000e0*6.000e0", 5, 1, "1.000e0*6.000e0*3.000e0/4.000e0*5.000e0/2.000e0"},
		// These differ only by their indices.
		{"2.000e0*2.000e0*2.000e0", 0, 2, "2.000e0*2.000e0*2.000e0"},
	} {
		checkChain(t, "SwapTerms "+c.text, chain(c.want), impl.ErrNone)(impl.SwapTerms(chain(c.text), c.a, c.b))
	}
}

func TestSwapTermsFollowsItsDefinition(t *testing.T) {
	for _, c := range someChains() {
		for a := range c {
			for b := range c {
				want := slices.Clone(c)
				want[a], want[b] = c[b], c[a]
				if want[0].Divide {
					checkChain(t, "SwapTerms", nil, impl.ErrState)(impl.SwapTerms(c, int64(a), int64(b)))
				} else {
					checkChain(t, "SwapTerms", want, impl.ErrNone)(impl.SwapTerms(c, int64(a), int64(b)))
				}
			}
		}
	}
}

func TestSwapTermsErrors(t *testing.T) {
	for _, c := range someChains() {
		length := int64(len(c))
		for _, a := range append([]int64{-1, length, -2, length + 1, -length, maxTerms, 1 << 32, -1 << 32, limit, -limit}, noValues...) {
			// Also where the other index, or the same one, would bring a term with Divide to the front.
			for b := int64(-2); b <= length+1; b++ {
				checkChain(t, "SwapTerms", nil, impl.ErrRange)(impl.SwapTerms(c, a, b))
				checkChain(t, "SwapTerms", nil, impl.ErrRange)(impl.SwapTerms(c, b, a))
			}
			checkChain(t, "SwapTerms", nil, impl.ErrRange)(impl.SwapTerms(c, a, a))
		}
	}
}

func TestSortTermsExamples(t *testing.T) {
	for _, c := range [][2]string{
		{"2.000e0", "2.000e0"},
		{"2.000e0*3.000e0", "2.000e0*3.000e0"},
		{"2.000e0/3.000e0", "2.000e0/3.000e0"},
		{"2.000e0*3.000e0/6.000e0", "2.000e0/6.000e0*3.000e0"},
		{"2.000e0/6.000e0*3.000e0", "2.000e0/6.000e0*3.000e0"},
		{"6.000e0*5.000e0*4.000e0*3.000e0*2.000e0*1.000e0", "6.000e0*5.000e0*4.000e0*3.000e0*2.000e0*1.000e0"},
		{"1.000e0/6.000e0/5.000e0/4.000e0/3.000e0/2.000e0", "1.000e0/6.000e0/5.000e0/4.000e0/3.000e0/2.000e0"},
		{"1.000e0*2.000e0*3.000e0*4.000e0/5.000e0/6.000e0", "1.000e0/5.000e0*2.000e0/6.000e0*3.000e0*4.000e0"},
		{"1.000e0*2.000e0*3.000e0/4.000e0/5.000e0/6.000e0", "1.000e0/4.000e0*2.000e0/5.000e0*3.000e0/6.000e0"},
		{"1.000e0*2.000e0/3.000e0/4.000e0/5.000e0/6.000e0", "1.000e0/3.000e0*2.000e0/4.000e0/5.000e0/6.000e0"},
		{"1.000e0*2.000e0*3.000e0*4.000e0*5.000e0/6.000e0", "1.000e0/6.000e0*2.000e0*3.000e0*4.000e0*5.000e0"},
		{"1.000e0*9.000e0*8.000e0/9.000e0/8.000e0*9.000e0", "1.000e0/9.000e0*9.000e0/8.000e0*8.000e0*9.000e0"},
	} {
		checkChain(t, "SortTerms "+c[0], chain(c[1]), impl.ErrNone)(impl.SortTerms(chain(c[0])))
	}
}

func TestSortTermsFollowsItsDefinition(t *testing.T) {
	random, list := randomNumbers(313), someChains()
	for range 500 {
		list = append(list, randomChain(random, 30))
	}
	for _, c := range list {
		want := definedSort(c)
		checkChain(t, "SortTerms", want, impl.ErrNone)(impl.SortTerms(c))
		checkChain(t, "SortTerms of sorted terms", want, impl.ErrNone)(impl.SortTerms(want))
	}
}

func TestJoinChainsExamples(t *testing.T) {
	for _, c := range []struct {
		first, second, product, quotient string
	}{
		{"2.000e0", "3.000e0", "2.000e0*3.000e0", "2.000e0/3.000e0"},
		{"2.000e0", "2.000e0*3.000e0", "2.000e0*2.000e0*3.000e0", "2.000e0/2.000e0/3.000e0"},
		{"2.000e0/3.000e0", "4.000e0/5.000e0", "2.000e0/3.000e0*4.000e0/5.000e0", "2.000e0/3.000e0/4.000e0*5.000e0"},
		{"1.000e0", "2.000e0/3.000e0*4.000e0/5.000e0*6.000e0", "1.000e0*2.000e0/3.000e0*4.000e0/5.000e0*6.000e0", "1.000e0/2.000e0*3.000e0/4.000e0*5.000e0/6.000e0"},
		{"1.000e0/2.000e0*3.000e0/4.000e0*5.000e0", "6.000e0", "1.000e0/2.000e0*3.000e0/4.000e0*5.000e0*6.000e0", "1.000e0/2.000e0*3.000e0/4.000e0*5.000e0/6.000e0"},
		{"1.000e30*2.000e30", "1.000e-30/9.999e-30", "1.000e30*2.000e30*1.000e-30/9.999e-30", "1.000e30*2.000e30/1.000e-30*9.999e-30"},
	} {
		name := "JoinChains " + c.first + ", " + c.second
		checkChain(t, name, chain(c.product), impl.ErrNone)(impl.JoinChains(chain(c.first), chain(c.second), false))
		checkChain(t, name, chain(c.quotient), impl.ErrNone)(impl.JoinChains(chain(c.first), chain(c.second), true))
	}
}

func TestJoinChainsFollowsItsDefinition(t *testing.T) {
	list := someChains()
	for _, c := range list {
		for _, d := range list {
			if len(c)+len(d) > maxTerms {
				checkChain(t, "JoinChains", nil, impl.ErrLimit)(impl.JoinChains(c, d, false))
				checkChain(t, "JoinChains", nil, impl.ErrLimit)(impl.JoinChains(c, d, true))
				continue
			}
			changed := slices.Clone(d)
			for i := range changed {
				changed[i].Divide = !d[i].Divide
			}
			checkChain(t, "JoinChains", slices.Concat(c, d), impl.ErrNone)(impl.JoinChains(c, d, false))
			checkChain(t, "JoinChains", slices.Concat(c, changed), impl.ErrNone)(impl.JoinChains(c, d, true))
		}
	}
}

// Promise 13: exchanging terms does not change the logarithm of a chain.

func TestExchangingTermsKeepsTheLogarithm(t *testing.T) {
	random, list, swapped := randomNumbers(413), someChains(), 0
	for range 300 {
		list = append(list, randomChain(random, 3), randomChain(random, 30))
	}
	for _, text := range []string{"1.000e-30", "1.000e-30*1.000e0", "1.010e-15*9.901e-16", "1.110e15*9.009e14", "9.999e30*1.000e-30*9.999e30/9.999e30/1.000e-30*3.493e30"} {
		list = append(list, chain(text))
	}
	for _, c := range list {
		for a := range c {
			for b := range c {
				d, code := impl.SwapTerms(c, int64(a), int64(b))
				if code == impl.ErrNone {
					swapped++
					checkSameLog(t, c, d)
					checkChain(t, "SwapTerms again", c, impl.ErrNone)(impl.SwapTerms(d, int64(b), int64(a)))
				}
			}
		}
		if sorted, code := impl.SortTerms(c); code == impl.ErrNone {
			checkSameLog(t, c, sorted)
		}
	}
	if swapped < 5000 {
		t.Error("only", swapped, "pairs of terms could be exchanged")
	}
}

func TestExchangingManyTermsKeepsTheLogarithm(t *testing.T) {
	random := randomNumbers(513)
	for range 200 {
		c := randomChain(random, 10)
		d := c
		for range 30 {
			e, code := impl.SwapTerms(d, random(int64(len(c))), random(int64(len(c))))
			if code == impl.ErrNone {
				d = e
			} else if code != impl.ErrState {
				t.Errorf("SwapTerms %s: %d", definedChainText(d), code)
			}
			checkSameLog(t, c, d)
		}
	}
}

func TestTheLogarithmOfJoinedChainsIsTheSumOrTheDifference(t *testing.T) {
	random := randomNumbers(613)
	for range 2000 {
		c, d := randomChain(random, 30), randomChain(random, 30)
		if len(c)+len(d) > maxTerms {
			continue
		}
		a, one := impl.ChainLog(c)
		b, two := impl.ChainLog(d)
		if one != impl.ErrNone || two != impl.ErrNone {
			t.Error("ChainLog", one, two)
		}
		product, _ := impl.JoinChains(c, d, false)
		quotient, _ := impl.JoinChains(c, d, true)
		sum, _ := impl.AddLogs(a, b)
		difference, _ := impl.SubtractLogs(a, b)
		checkInterval(t, "ChainLog", sum, impl.ErrNone)(impl.ChainLog(product))
		checkInterval(t, "ChainLog", difference, impl.ErrNone)(impl.ChainLog(quotient))
	}
}

// The order of errors: a chain that is not as described comes first.

func TestInvalidChainsComeFirst(t *testing.T) {
	good := [][]impl.Term{chain("2.000e0"), chain("2.000e0/3.000e0"), chain("2.000e0*3.000e0/4.000e0*5.000e0/6.000e0*7.000e0")}
	for _, c := range noChains() {
		name := strconv.Itoa(len(c)) + " terms that are no chain"
		checkInterval(t, name, noLog, impl.ErrInvalid)(impl.ChainLog(c))
		checkSpan(t, name, none, none, impl.ErrInvalid)(impl.ChainSpan(c))
		checkFigure(t, name, none, impl.ErrInvalid)(impl.ChainFigure(c))
		for _, pair := range [][2]int64{{0, 0}, {0, 1}, {1, 0}, {-1, 0}, {0, 7}, {limit, -limit}} {
			checkChain(t, name, nil, impl.ErrInvalid)(impl.SwapTerms(c, pair[0], pair[1]))
		}
		checkChain(t, name, nil, impl.ErrInvalid)(impl.SortTerms(c))
		for _, d := range append(good, c) {
			for _, divide := range []bool{false, true} {
				checkChain(t, name, nil, impl.ErrInvalid)(impl.JoinChains(c, d, divide))
				checkChain(t, name, nil, impl.ErrInvalid)(impl.JoinChains(d, c, divide))
			}
		}
		if s, code := impl.ChainText(c); s != "" || code != impl.ErrInvalid {
			t.Errorf("ChainText of %s: %q, %d", name, s, code)
		}
	}
}

// Promise 1: chains are recovered from their texts.

func TestChainTextExamples(t *testing.T) {
	for _, c := range []struct {
		list []impl.Term
		want string
	}{
		{[]impl.Term{times(figure(2000, 0)), times(figure(3000, 0)), divide(figure(6000, 0))}, "2.000e0*3.000e0/6.000e0"},
		{[]impl.Term{times(figure(1000, -30))}, "1.000e-30"},
		{[]impl.Term{times(figure(9999, 30)), divide(figure(1001, -1))}, "9.999e30/1.001e-1"},
		{[]impl.Term{times(figure(1050, 10)), divide(figure(1005, -10)), divide(figure(1500, 9))}, "1.050e10/1.005e-10/1.500e9"},
		{manyTerms(maxTerms, times(figure(2000, 0))), "2.000e0*2.000e0*2.000e0*2.000e0*2.000e0*2.000e0"},
	} {
		checkChainText(t, c.list, c.want)
	}
}

func TestChainsAreRecoveredFromTheirTexts(t *testing.T) {
	texts := map[string]bool{}
	for _, c := range someChains() {
		checkChainText(t, c, definedChainText(c))
		texts[definedChainText(c)] = true
	}
	if len(texts) != 63 {
		t.Error("two chains have the same text:", len(texts))
	}
	random := randomNumbers(713)
	for range 2000 {
		c := randomChain(random, 30)
		checkChainText(t, c, definedChainText(c))
	}
	for digits := int64(1000); digits <= 9999; digits++ {
		first, last := figure(digits, digits%61-30), figure(10999-digits, 30-digits%61)
		checkChainText(t, []impl.Term{times(first)}, definedChainText([]impl.Term{times(first)}))
		for _, c := range [][]impl.Term{{times(first), times(last)}, {times(first), divide(last)}} {
			checkChainText(t, c, definedChainText(c))
		}
	}
}

func TestTextsOfInvalidChainsAreTextsOfNothing(t *testing.T) {
	for _, c := range noChains() {
		if len(c) <= 100 {
			checkChain(t, "ReadChain "+definedChainText(c), nil, impl.ErrSyntax)(impl.ReadChain(definedChainText(c)))
		}
	}
}

func TestReadChainRejectsTextsOfNothing(t *testing.T) {
	six := "2.000e0*2.000e0*2.000e0*2.000e0*2.000e0*2.000e0"
	for _, s := range []string{
		"", " ", "-", "*", "/", "**", "*/", "//", "0", "1", "e", ".",
		"*2.000e0", "/2.000e0", "-2.000e0", "+2.000e0", "1/2.000e0", "1*2.000e0", "**2.000e0", "*/2.000e0", "//2.000e0", "/*2.000e0",
		"2.000e0*", "2.000e0/", "2.000e0**", "2.000e0//", "2.000e0**3.000e0", "2.000e0//3.000e0", "2.000e0*/3.000e0", "2.000e0/*3.000e0", "2.000e0*3.000e0*", "2.000e0*3.000e0/", "2.000e0*3.000e0//6.000e0", "2.000e0**3.000e0/6.000e0",
		" 2.000e0", "2.000e0 ", "2.000e0 *3.000e0", "2.000e0* 3.000e0", "2.000e0 * 3.000e0", "2.000e0 3.000e0", "2.000e0\n", "2.000e0\n*3.000e0", "2.000e0*\n3.000e0", "2.000e0*3.000e0\n", "2.000e0*3.000e0 ", "2.000e0\x00*3.000e0", "2.000e0*3.000e0\x00",
		"2.000e03.000e0", "2.000e0,3.000e0", "2.000e0:3.000e0", "2.000e0x3.000e0", "2.000e0+3.000e0", "2.000e0-3.000e0", "2.000e0\\3.000e0", "2.000e0|3.000e0", "2.000e0\u00d73.000e0", "2.000e0\u00f73.000e0", "2.000e0\u22173.000e0", "2.000e0\u20443.000e0", "2.000e0\uff0a3.000e0", "2.000e0\uff0f3.000e0", "2.000e0\xaa3.000e0", "2.000e0\xff3.000e0", "2.000e0*\xff", "\xff*2.000e0", "2.000e0\u012a3.000e0", "2.000e0\u012f3.000e0",
		"2", "2.0", "2.000", "2.000e", "2*3", "2.000*3.000", "2.000e0*3", "2.000e0*3.000", "2.000e0*3.000e", "2.000e*3.000e0", "2.00*0e0", "2.*000e0", "2*.000e0", "2.000*e0", "2.000e0*3.000e+0", "2.000e00*3.000e0", "2.000e-0*3.000e0", "2.000E0*3.000e0", "2.000e0*3.0000e0", "2.000e0*30.00e0", "2.000e0*0.300e0", "2.000e0*0.000e0", "2.000e0*-3.000e0", "2.000e0/-3.000e0", "2.000e0*+3.000e0", "2.000e31*3.000e0", "2.000e0*3.000e31", "2.000e0/3.000e-31", "2.000e0*3,000e0", "2.000e0*3.000e0.", "2.000e*0",
		"(2.000e0)", "(2.000e0*3.000e0)/6.000e0", "2.000e0*(3.000e0/6.000e0)", "2.000e0^2", "2.000e0*a", "a*2.000e0", "1.000e9223372036854775808*2.000e0",
		six + "*2.000e0", six + "/2.000e0", six + "*", six + "/", six + "*x", six + " ", six + "\n", "*" + six, "/" + six, six + "*" + six, six[:len(six)-1], six[1:],
		strings.Repeat("*", 6), strings.Repeat("/", 7), strings.Repeat("2.000e0*", 6), strings.Repeat("2.000e0*", 5), strings.Repeat("2.000e0*", 5) + "x", strings.Repeat("*2.000e0", 6),
		strings.Repeat("2.000e0*", 100000) + "2.000e0", strings.Repeat("2.000e0/", 100000), strings.Repeat("*", 100000), strings.Repeat("2", 100000), strings.Repeat(" ", 100000), "2.000e" + strings.Repeat("0", 100000), "2.000e0*" + strings.Repeat("x", 100000), strings.Repeat("x", 100000) + "*2.000e0",
	} {
		c, code := impl.ReadChain(s)
		if c != nil || code != impl.ErrSyntax {
			t.Errorf("ReadChain(%q) = %v, %d", s[:min(len(s), 80)], c, code)
		}
	}
}

func TestReadChainAcceptsExactlyTheTextsOfChains(t *testing.T) {
	bytes := "0139-.e*/, \n\xff"
	accepted := 0
	for _, base := range []string{"2.000e0", "1.000e-30*9.999e30", "6.667e-1/3.300e29", "2.000e0*3.000e0/6.000e0", "1.000e0/2.000e0/3.000e0*4.000e0*5.000e0/6.000e0"} {
		for i := 0; i <= len(base); i++ {
			for _, b := range []byte(bytes) {
				checkReadChain(t, base[:i]+string([]byte{b})+base[i:], &accepted)
				if i < len(base) {
					checkReadChain(t, base[:i]+base[i+1:], &accepted)
					checkReadChain(t, base[:i]+string([]byte{b})+base[i+1:], &accepted)
				}
				for j := i + 1; j < len(base); j++ {
					for _, c := range []byte(bytes) {
						checkReadChain(t, base[:i]+string([]byte{b})+base[i+1:j]+string([]byte{c})+base[j+1:], &accepted)
					}
				}
			}
		}
	}
	if accepted < 5000 {
		t.Error("only", accepted, "texts were accepted")
	}
}

func TestChainsShareNoMemory(t *testing.T) {
	spare := impl.Term{Figure: figure(77, 78), Divide: true}
	whole := append(chain("2.000e0*3.000e0/6.000e0"), spare, spare, spare)
	before := slices.Clone(whole)
	c, d := whole[:3], whole[:2]
	for range 2 {
		callAllWithChains(c, d)
		for _, results := range [][][]impl.Term{changedChains(c, d), changedChains(c[:1], c[:1])} {
			copies := make([][]impl.Term, len(results))
			for i, r := range results {
				copies[i] = slices.Clone(r)
			}
			for i, r := range results {
				if len(r) == 0 || !slices.Equal(r, copies[i]) {
					t.Error("a result is missing or has been changed with another one:", r, copies[i])
				}
				spoilTerms(r)
			}
			if !slices.Equal(whole, before) {
				t.Fatal("a chain has been changed:", whole)
			}
		}
	}
}

func TestChainsDoNotDependOnEarlierCalls(t *testing.T) {
	c := chain("2.000e0*3.000e0/7.000e0")
	for range 3 {
		checkChainNumbers(t, c)
		checkChain(t, "SortTerms", chain("2.000e0/7.000e0*3.000e0"), impl.ErrNone)(impl.SortTerms(c))
		checkChain(t, "ReadChain", c, impl.ErrNone)(impl.ReadChain("2.000e0*3.000e0/7.000e0"))
		callAllWithChains(chain("1.000e30/9.999e0"), c)
		callAllWithChains(nil, []impl.Term{divide(none)})
		impl.ReadChain("1.000e0/x")
	}
}

// nearestFigure returns the figure nearest to a positive number, and false if there is none.
func nearestFigure(x *big.Rat) (impl.Figure, bool) {
	tens := int64(-200)
	for fraction(figure(1000, tens+1)).Cmp(x) <= 0 {
		tens++
	}
	digits := new(big.Rat).Quo(x, fraction(figure(1, tens)))
	digits.Add(digits, big.NewRat(1, 2))
	f := figure(new(big.Int).Quo(digits.Num(), digits.Denom()).Int64(), tens)
	if f.Digits == 10000 {
		f = figure(1000, tens+1)
	}
	return f, -30 <= f.Tens && f.Tens <= 30
}

// definedChainFigure rounds after each term.
func definedChainFigure(c []impl.Term) (impl.Figure, int64) {
	f, ok := c[0].Figure, true
	for _, k := range c[1:] {
		x := fraction(f)
		if k.Divide {
			x.Quo(x, fraction(k.Figure))
		} else {
			x.Mul(x, fraction(k.Figure))
		}
		if f, ok = nearestFigure(x); !ok {
			return none, impl.ErrLimit
		}
	}
	return f, impl.ErrNone
}

func definedChainLog(c []impl.Term) impl.Interval {
	sum := noLog
	for _, k := range c {
		a := definedFigureLog(k.Figure)
		if k.Divide {
			sum = interval(sum.Low-a.High, sum.High-a.Low)
		} else {
			sum = interval(sum.Low+a.Low, sum.High+a.High)
		}
	}
	return sum
}

func chainValue(c []impl.Term) *big.Rat {
	x := big.NewRat(1, 1)
	for _, k := range c {
		if k.Divide {
			x.Quo(x, fraction(k.Figure))
		} else {
			x.Mul(x, fraction(k.Figure))
		}
	}
	return x
}

// definedSort takes the first term that is left, if none of the kind is left whose turn it is.
func definedSort(c []impl.Term) []impl.Term {
	sorted, rest := []impl.Term{c[0]}, slices.Clone(c[1:])
	for divide := true; len(rest) > 0; divide = !divide {
		i := max(0, slices.IndexFunc(rest, func(k impl.Term) bool { return k.Divide == divide }))
		sorted = append(sorted, rest[i])
		rest = slices.Delete(rest, i, i+1)
	}
	return sorted
}

// checkChainNumbers expects a chain.
func checkChainNumbers(t *testing.T, c []impl.Term) {
	t.Helper()
	name, log := definedChainText(c), definedChainLog(c)
	checkInterval(t, "ChainLog "+name, log, impl.ErrNone)(impl.ChainLog(c))
	low, high, code := definedSpan(log)
	checkSpan(t, "ChainSpan "+name, low, high, code)(impl.ChainSpan(c))
	if x := chainValue(c); code == impl.ErrNone && (fraction(low).Cmp(x) > 0 || fraction(high).Cmp(x) < 0) {
		t.Errorf("%s: %v is not in the span from %v to %v", name, x, low, high)
	}
	f, code := definedChainFigure(c)
	checkFigure(t, "ChainFigure "+name, f, code)(impl.ChainFigure(c))
}

// checkSameLog compares the program only with itself.
func checkSameLog(t *testing.T, c, d []impl.Term) {
	t.Helper()
	name := definedChainText(c) + " and " + definedChainText(d)
	a, code := impl.ChainLog(c)
	if code != impl.ErrNone {
		t.Errorf("ChainLog %s: %d", name, code)
	}
	checkInterval(t, "ChainLog "+name, a, code)(impl.ChainLog(d))
	low, high, code := impl.ChainSpan(c)
	checkSpan(t, "ChainSpan "+name, low, high, code)(impl.ChainSpan(d))
}

// definedChainText also writes terms that are no chain.
func definedChainText(c []impl.Term) string {
	text := ""
	for i, k := range c {
		if k.Divide {
			text += "/"
		} else if i > 0 {
			text += "*"
		}
		digits := strconv.FormatInt(k.Figure.Digits, 10)
		text += digits[:1] + "." + digits[1:] + "e" + strconv.FormatInt(k.Figure.Tens, 10)
	}
	return text
}

func checkChainText(t *testing.T, c []impl.Term, want string) {
	t.Helper()
	if s, code := impl.ChainText(c); s != want || code != impl.ErrNone {
		t.Errorf("ChainText(%v) = %q, %d; want %q", c, s, code, want)
	}
	checkChain(t, "ReadChain "+want, c, impl.ErrNone)(impl.ReadChain(want))
}

const figureForm = `[1-9]\.[0-9]{3}e(?:0|-?(?:[1-9]|[12][0-9]|30))`

var (
	chainGrammar = regexp.MustCompile(`^` + figureForm + `(?:[*/]` + figureForm + `){0,5}$`)
	termGrammar  = regexp.MustCompile(`([*/]?)([1-9])\.([0-9]{3})e(-?[0-9]+)`)
)

// grammarChain returns the chain with a text, and false if there is none.
func grammarChain(s string) ([]impl.Term, bool) {
	if !chainGrammar.MatchString(s) {
		return nil, false
	}
	var c []impl.Term
	for _, found := range termGrammar.FindAllStringSubmatch(s, -1) {
		digits, _ := strconv.ParseInt(found[2]+found[3], 10, 64)
		tens, _ := strconv.ParseInt(found[4], 10, 64)
		c = append(c, impl.Term{Figure: figure(digits, tens), Divide: found[1] == "/"})
	}
	return c, true
}

func checkReadChain(t *testing.T, s string, accepted *int) {
	t.Helper()
	want, ok := grammarChain(s)
	if !ok {
		checkChain(t, "ReadChain "+s, nil, impl.ErrSyntax)(impl.ReadChain(s))
		return
	}
	*accepted++
	checkChain(t, "ReadChain "+s, want, impl.ErrNone)(impl.ReadChain(s))
}

// checkChain takes the results of a function directly.
func checkChain(t *testing.T, name string, want []impl.Term, wantCode int64) func([]impl.Term, int64) {
	t.Helper()
	return func(got []impl.Term, code int64) {
		t.Helper()
		if !slices.Equal(got, want) || code != wantCode {
			t.Errorf("%s: %v, %d; want %v, %d", name, got, code, want, wantCode)
		}
	}
}

// changedChains are the results of all functions that return a chain, two of each.
func changedChains(c, d []impl.Term) [][]impl.Term {
	var list [][]impl.Term
	for range 2 {
		swapped, _ := impl.SwapTerms(c, 0, 0)
		sorted, _ := impl.SortTerms(c)
		product, _ := impl.JoinChains(c, d, false)
		quotient, _ := impl.JoinChains(d, c, true)
		again, _ := impl.ReadChain("2.000e0*3.000e0/6.000e0")
		list = append(list, swapped, sorted, product, quotient, again)
	}
	return list
}

func callAllWithChains(c, d []impl.Term) {
	impl.IsChain(c)
	impl.ChainLog(c)
	impl.ChainSpan(c)
	impl.ChainFigure(c)
	impl.SwapTerms(c, 0, 1)
	impl.SwapTerms(c, 1, 2)
	impl.SortTerms(c)
	impl.JoinChains(c, d, false)
	impl.JoinChains(d, c, true)
	impl.JoinChains(c, c, true)
	impl.ChainText(c)
}

// spoilTerms also writes behind a chain, as far as its memory reaches.
func spoilTerms(c []impl.Term) {
	c = c[:cap(c)]
	for i := range c {
		c[i] = divide(figure(-1, -1))
	}
}
