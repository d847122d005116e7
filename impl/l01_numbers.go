package impl

import (
	"strconv"
	"strings"
)

// Error codes of all chapters.
const (
	ErrNone = iota
	ErrInvalid
	ErrRange
	ErrLimit
	ErrNotFound
	ErrState
	ErrSyntax
)

// MaxInteger is the greatest integer of chapter 1.
const MaxInteger = 1000000000

// Limits that chapter 1 names in its text only.
const (
	maxNumbers         = 64
	maxNegativeNumbers = 1000
	maxDigits          = 9
)

// Fraction is described in chapter 1.
type Fraction struct {
	Top, Bottom int64
}

// isFraction reports whether f is a fraction in lowest terms within the limits.
func (f Fraction) isFraction() bool {
	return isInteger(f.Top) && isNatural(f.Bottom) && greatestDivisor(f.Top, f.Bottom) == 1
}

// reduced returns f in lowest terms with a positive bottom. The bottom must not be 0.
func (f Fraction) reduced() Fraction {
	d := greatestDivisor(f.Top, f.Bottom)
	if f.Bottom < 0 {
		d = -d
	}
	return Fraction{f.Top / d, f.Bottom / d}
}

// limited returns f in lowest terms, or ErrLimit if that is no fraction.
func (f Fraction) limited() (Fraction, int64) {
	r := f.reduced()
	if !r.isFraction() {
		return Fraction{}, ErrLimit
	}
	return r, ErrNone
}

// text returns the text of f.
func (f Fraction) text() string {
	s := strconv.FormatInt(f.Top, 10)
	if f.Bottom == 1 {
		return s
	}
	return s + "/" + strconv.FormatInt(f.Bottom, 10)
}

// isInteger reports whether n is an integer of chapter 1.
func isInteger(n int64) bool { return -MaxInteger <= n && n <= MaxInteger }

// isNatural reports whether n is a natural number of chapter 1.
func isNatural(n int64) bool { return 1 <= n && n <= MaxInteger }

// greatestDivisor returns the greatest common divisor of a and b, neither of which may be the least
// int64, because its absolute value is none.
func greatestDivisor(a, b int64) int64 {
	for b != 0 {
		a, b = b, a%b
	}
	if a < 0 {
		return -a
	}
	return a
}

// CommonDivisor returns the greatest common divisor of two integers, and ErrNone.
func CommonDivisor(a int64, b int64) (int64, int64) {
	if !isInteger(a) || !isInteger(b) {
		return 0, ErrRange
	}
	return greatestDivisor(a, b), ErrNone
}

// CommonDivisorOf returns the greatest common divisor of at most 64 integers, which is 0 for none,
// and ErrNone. Errors: ErrRange also if there are more.
func CommonDivisorOf(list []int64) (int64, int64) {
	if len(list) > maxNumbers {
		return 0, ErrRange
	}
	var d int64
	for _, n := range list {
		if !isInteger(n) {
			return 0, ErrRange
		}
		d = greatestDivisor(d, n)
	}
	return d, ErrNone
}

// EuclidSteps returns the steps of natural numbers, and ErrNone.
func EuclidSteps(a int64, b int64) ([][]int64, int64) {
	if !isNatural(a) || !isNatural(b) {
		return nil, ErrRange
	}
	var steps [][]int64
	for b > 0 {
		steps = append(steps, []int64{a / b, b})
		a, b = b, a%b
	}
	return steps, ErrNone
}

// ContinuedFraction returns the continued fraction of a / b for natural numbers, and ErrNone.
func ContinuedFraction(a int64, b int64) ([]int64, int64) {
	steps, code := EuclidSteps(a, b)
	if code != ErrNone {
		return nil, code
	}
	list := make([]int64, 0, len(steps))
	for _, s := range steps {
		list = append(list, s[0])
	}
	return list, ErrNone
}

// FractionValue returns the value of a list of 1 to 64 integers, the first one at least 0 and all
// others at least 1, as a fraction, and ErrNone. Errors: ErrLimit if, when it is calculated from
// the last number to the first one, a top or bottom is greater than MaxInteger.
func FractionValue(list []int64) (Fraction, int64) {
	return nestedValue(list, 0, 1, 1)
}

// NegativeFraction returns the negative continued fraction of natural numbers a > b, and ErrNone.
// Errors: ErrRange also if a is not greater than b; ErrState if they have a common divisor greater
// than 1; ErrLimit, behind it, if the list would have more than 1000 numbers.
func NegativeFraction(a int64, b int64) ([]int64, int64) {
	if !isNatural(a) || !isNatural(b) || a <= b {
		return nil, ErrRange
	}
	if greatestDivisor(a, b) != 1 {
		return nil, ErrState
	}
	var list []int64
	for b > 0 {
		if len(list) == maxNegativeNumbers {
			return nil, ErrLimit
		}
		c := (a + b - 1) / b
		list = append(list, c)
		a, b = b, c*b-a
	}
	return list, ErrNone
}

// NegativeValue returns the number whose negative continued fraction a list of 1 to 64 integers of
// at least 2 is, as a fraction, and ErrNone. Errors: ErrLimit as for FractionValue.
func NegativeValue(list []int64) (Fraction, int64) {
	return nestedValue(list, 2, 2, -1)
}

// nestedValue returns the value of a list in which each number is added to sign times the inverse
// of the value behind it; the first number is at least first, and all others at least other.
func nestedValue(list []int64, first, other, sign int64) (Fraction, int64) {
	if len(list) == 0 || len(list) > maxNumbers {
		return Fraction{}, ErrRange
	}
	least := first
	for _, n := range list {
		if n < least || n > MaxInteger {
			return Fraction{}, ErrRange
		}
		least = other
	}
	// 1 / 0 stands behind the last number, because its inverse adds nothing. Each value is then in
	// lowest terms, and its bottom is a top that was within the limit.
	f := Fraction{1, 0}
	for i := len(list) - 1; i >= 0; i-- {
		f = Fraction{list[i]*f.Top + sign*f.Bottom, f.Top}
		if f.Top > MaxInteger {
			return Fraction{}, ErrLimit
		}
	}
	return f, ErrNone
}

// MakeFraction returns the fraction with the value a / b, for integers a and b, and ErrNone.
// Errors: ErrState if b is 0.
func MakeFraction(a int64, b int64) (Fraction, int64) {
	if !isInteger(a) || !isInteger(b) {
		return Fraction{}, ErrRange
	}
	if b == 0 {
		return Fraction{}, ErrState
	}
	return Fraction{a, b}.reduced(), ErrNone
}

// AddFractions returns the sum of two fractions, and ErrNone. Errors: ErrLimit if its Top is not
// an integer, or its Bottom is not a natural number, in lowest terms.
func AddFractions(f Fraction, g Fraction) (Fraction, int64) {
	if !f.isFraction() || !g.isFraction() {
		return Fraction{}, ErrInvalid
	}
	return Fraction{f.Top*g.Bottom + g.Top*f.Bottom, f.Bottom * g.Bottom}.limited()
}

// MultiplyFractions returns the product of two fractions, and ErrNone. Errors: ErrLimit as for
// AddFractions.
func MultiplyFractions(f Fraction, g Fraction) (Fraction, int64) {
	if !f.isFraction() || !g.isFraction() {
		return Fraction{}, ErrInvalid
	}
	return Fraction{f.Top * g.Top, f.Bottom * g.Bottom}.limited()
}

// CompareFractions returns -1, 0 or 1, if f is less than, equal to or greater than g, and ErrNone.
func CompareFractions(f Fraction, g Fraction) (int64, int64) {
	if !f.isFraction() || !g.isFraction() {
		return 0, ErrInvalid
	}
	left, right := f.Top*g.Bottom, g.Top*f.Bottom
	switch {
	case left < right:
		return -1, ErrNone
	case left > right:
		return 1, ErrNone
	}
	return 0, ErrNone
}

// FractionText returns the text of f, and ErrNone.
func FractionText(f Fraction) (string, int64) {
	if !f.isFraction() {
		return "", ErrInvalid
	}
	return f.text(), ErrNone
}

// ParseFraction returns the fraction with a text, whose numbers have at most nine digits, and
// ErrNone. Errors: ErrSyntax if there is none. (ErrInvalid and ErrRange are not returned.)
func ParseFraction(text string) (Fraction, int64) {
	head, tail, divided := strings.Cut(text, "/")
	top, ok := readSigned(head)
	if !ok {
		return Fraction{}, ErrSyntax
	}
	f := Fraction{top, 1}
	if divided {
		if f.Bottom, ok = readDigits(tail); !ok {
			return Fraction{}, ErrSyntax
		}
	}
	// Superfluous zeros, signs and bottoms are those that the text of the fraction does not have.
	if !f.isFraction() || f.text() != text {
		return Fraction{}, ErrSyntax
	}
	return f, ErrNone
}

// readSigned returns the number that one to nine decimal digits, with - in front of them or not, make,
// and whether s is such digits.
func readSigned(s string) (int64, bool) {
	digits, negative := strings.CutPrefix(s, "-")
	n, ok := readDigits(digits)
	if negative {
		n = -n
	}
	return n, ok
}

// readDigits returns the number that one to nine decimal digits make, and whether s is such digits.
func readDigits(s string) (int64, bool) {
	if len(s) == 0 || len(s) > maxDigits {
		return 0, false
	}
	var n int64
	for i := 0; i < len(s); i++ {
		if s[i] < '0' || s[i] > '9' {
			return 0, false
		}
		n = n*10 + int64(s[i]-'0')
	}
	return n, true
}
