package impl

import (
	"cmp"
	"strconv"
	"strings"
)

// Error codes, shared by all chapters.
const (
	ErrNone = iota
	ErrInvalid
	ErrRange
	ErrLimit
	ErrNotFound
	ErrState
	ErrSyntax
)

// Limits of chapter 1.
const (
	MaxValue = 1000000000000
	MaxList  = 100
)

// DivideDown returns a / b, rounded down, and ErrNone. Errors, in this order: ErrRange if a or b
// is no value; ErrState if b is 0.
func DivideDown(a int64, b int64) (int64, int64) {
	if code := divisionError(a, b); code != ErrNone {
		return 0, code
	}
	return quotientDown(a, b), ErrNone
}

// DivideUp returns a / b, rounded up, and ErrNone. Errors: those of DivideDown.
func DivideUp(a int64, b int64) (int64, int64) {
	if code := divisionError(a, b); code != ErrNone {
		return 0, code
	}
	return quotientUp(a, b), ErrNone
}

// DivideNear returns the nearest integer to a / b, and ErrNone. Errors: those of DivideDown.
func DivideNear(a int64, b int64) (int64, int64) {
	if code := divisionError(a, b); code != ErrNone {
		return 0, code
	}
	return quotientNear(a, b), ErrNone
}

// PowerOfTen returns 10 to the power of n, and ErrNone. Errors: ErrRange if n is not in 0..12.
func PowerOfTen(n int64) (int64, int64) {
	if n < 0 || n > 12 {
		return 0, ErrRange
	}
	return tenTo(n), ErrNone
}

// CountDigits returns the number of decimal digits of n, 1 for 0, and ErrNone. Errors: ErrRange
// if n is not in 0..MaxValue.
func CountDigits(n int64) (int64, int64) {
	if n < 0 || n > MaxValue {
		return 0, ErrRange
	}
	return int64(len(strconv.FormatInt(n, 10))), ErrNone
}

// CommonDivisor returns the greatest integer that divides both values, 0 if both are 0, and
// ErrNone. Errors: ErrRange if a or b is no value.
func CommonDivisor(a int64, b int64) (int64, int64) {
	if !isValue(a) || !isValue(b) {
		return 0, ErrRange
	}
	return greatestDivisor(maximum(a, -a), maximum(b, -b)), ErrNone
}

// ListText returns values in decimal, with a minus sign if they are negative, separated by
// commas, and ErrNone; "-" for none. Errors: ErrRange if list has more than MaxList elements, or
// one is no value.
func ListText(list []int64) (string, int64) {
	if len(list) > MaxList || !areValues(list) {
		return "", ErrRange
	}
	if len(list) == 0 {
		return "-", ErrNone
	}
	words := make([]string, len(list))
	for i, n := range list {
		words[i] = strconv.FormatInt(n, 10)
	}
	return strings.Join(words, ","), ErrNone
}

// ReadList returns the values with the ListText s, and ErrNone. It returns nil and ErrSyntax if
// there are none.
func ReadList(s string) ([]int64, int64) {
	if s == "-" {
		return []int64{}, ErrNone
	}
	words := strings.SplitN(s, ",", MaxList+1)
	if len(words) > MaxList {
		return nil, ErrSyntax
	}
	list := make([]int64, len(words))
	for i, word := range words {
		n, ok := readValue(word)
		if !ok {
			return nil, ErrSyntax
		}
		list[i] = n
	}
	return list, ErrNone
}

// isValue compares with both limits, because the least int64 has no absolute value.
func isValue(n int64) bool {
	return -MaxValue <= n && n <= MaxValue
}

func areValues(list []int64) bool {
	for _, n := range list {
		if !isValue(n) {
			return false
		}
	}
	return true
}

func divisionError(a int64, b int64) int64 {
	switch {
	case !isValue(a) || !isValue(b):
		return ErrRange
	case b == 0:
		return ErrState
	}
	return ErrNone
}

// quotientDown corrects Go's division, which rounds towards zero.
func quotientDown(a int64, b int64) int64 {
	q := a / b
	if a%b != 0 && (a < 0) != (b < 0) {
		q--
	}
	return q
}

func quotientUp(a int64, b int64) int64 {
	return -quotientDown(-a, b)
}

// remainder expects a positive b, and is at least 0, unlike that of Go.
func remainder(a int64, b int64) int64 {
	return a - quotientDown(a, b)*b
}

// quotientNear rounds a / b + 1/2 down, as one fraction, so that nothing is rounded twice.
func quotientNear(a int64, b int64) int64 {
	return quotientDown(2*a+b, 2*b)
}

// distance expects numbers that are far from the limits of an int64.
func distance(a int64, b int64) int64 {
	return maximum(a-b, b-a)
}

// tenTo expects an exponent in 0..18, beyond which an int64 overflows.
func tenTo(n int64) int64 {
	power := int64(1)
	for range n {
		power *= 10
	}
	return power
}

// greatestDivisor expects numbers of at least 0.
func greatestDivisor(a int64, b int64) int64 {
	large, small := maximum(a, b), minimum(a, b)
	for small > 0 {
		large, small = small, large%small
	}
	return large
}

// readValue writes the number again, because ParseInt also accepts a plus sign and superfluous
// zeros, which no text has.
func readValue(word string) (int64, bool) {
	n, err := strconv.ParseInt(word, 10, 64)
	if err != nil || !isValue(n) || strconv.FormatInt(n, 10) != word {
		return 0, false
	}
	return n, true
}

func minimum[T cmp.Ordered](a T, b T) T {
	if b < a {
		return b
	}
	return a
}

func maximum[T cmp.Ordered](a T, b T) T {
	if b > a {
		return b
	}
	return a
}
