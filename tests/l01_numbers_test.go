package tests

import (
	"math"
	"slices"
	"testing"

	"loop.example/g01140/impl"
)

const most = impl.MaxInteger

// trialDivisor finds the greatest common divisor of naturals by trying all numbers.
func trialDivisor(a, b int64) int64 {
	for d := min(a, b); d > 1; d-- {
		if a%d == 0 && b%d == 0 {
			return d
		}
	}
	return 1
}

// largePairs are naturals near the limit, Fibonacci numbers (with the longest lists of steps), and
// pairs with 1.
func largePairs() [][2]int64 {
	return [][2]int64{
		{most, 1}, {1, most}, {most, most}, {most, most - 1}, {most - 1, most},
		{701408733, 433494437}, {433494437, 701408733}, {999999937, 999999936},
		{123456789, 987654321}, {most, 999999937}, {536870912, 387420489},
	}
}

// smallPairs are all pairs of naturals up to 60.
func smallPairs() [][2]int64 {
	var pairs [][2]int64
	for a := int64(1); a <= 60; a++ {
		for b := int64(1); b <= 60; b++ {
			pairs = append(pairs, [2]int64{a, b})
		}
	}
	return pairs
}

func TestErrorCodes(t *testing.T) {
	codes := []int64{impl.ErrNone, impl.ErrInvalid, impl.ErrRange, impl.ErrLimit, impl.ErrNotFound, impl.ErrState, impl.ErrSyntax}
	for i, code := range codes {
		if code != int64(i) {
			t.Errorf("code %d is %d", i, code)
		}
	}
	if impl.MaxInteger != 1000000000 {
		t.Errorf("MaxInteger is %d", impl.MaxInteger)
	}
}

func TestCommonDivisor(t *testing.T) {
	for _, c := range []struct{ a, b, want int64 }{
		{0, 0, 0}, {0, 5, 5}, {5, 0, 5}, {0, -5, 5}, {-5, 0, 5}, {1, 0, 1},
		{-12, 18, 6}, {12, -18, 6}, {-12, -18, 6}, {18, 12, 6}, {7, 7, 7}, {-7, 7, 7}, {35, 36, 1},
		{most, most, most}, {most, -most, most}, {-most, 0, most}, {0, most, most}, {-most, most - 1, 1},
		{536870912, most, 512},
	} {
		if n, code := impl.CommonDivisor(c.a, c.b); n != c.want || code != impl.ErrNone {
			t.Errorf("CommonDivisor(%d, %d) = %d, %d", c.a, c.b, n, code)
		}
	}
	for _, p := range smallPairs() {
		if n, code := impl.CommonDivisor(p[0], -p[1]); n != trialDivisor(p[0], p[1]) || code != impl.ErrNone {
			t.Errorf("CommonDivisor(%d, %d) = %d, %d", p[0], -p[1], n, code)
		}
	}
}

func TestCommonDivisorRange(t *testing.T) {
	for _, n := range outsideNumbers() {
		for _, p := range [][2]int64{{n, 6}, {6, n}, {0, n}, {n, 0}, {n, n}} {
			if d, code := impl.CommonDivisor(p[0], p[1]); d != 0 || code != impl.ErrRange {
				t.Errorf("CommonDivisor(%d, %d) = %d, %d", p[0], p[1], d, code)
			}
		}
	}
}

func TestCommonDivisorOf(t *testing.T) {
	for _, c := range []struct {
		list []int64
		want int64
	}{
		{nil, 0}, {[]int64{}, 0}, {[]int64{0}, 0}, {[]int64{0, 0}, 0}, {[]int64{-4}, 4}, {[]int64{0, -4}, 4},
		{[]int64{12, 0, 18, 8}, 2}, {[]int64{-12, -18}, 6}, {[]int64{6, 10, 15}, 1}, {[]int64{most}, most},
		{[]int64{-most, most}, most}, {repeated(-9, 64), 9}, {append(repeated(6, 63), 4), 2}, {repeated(0, 64), 0},
	} {
		checkListKept(t, "CommonDivisorOf", c.list, func(list []int64) {
			if n, code := impl.CommonDivisorOf(list); n != c.want || code != impl.ErrNone {
				t.Errorf("CommonDivisorOf(%v) = %d, %d", list, n, code)
			}
		})
	}
	bad := [][]int64{repeated(6, 65), repeated(0, 65)}
	for _, n := range outsideNumbers() {
		bad = append(bad, []int64{n}, []int64{4, n}, []int64{n, 4}, []int64{1, 1, n})
	}
	for _, list := range bad {
		if n, code := impl.CommonDivisorOf(list); n != 0 || code != impl.ErrRange {
			t.Errorf("CommonDivisorOf(%v) = %d, %d", list, n, code)
		}
	}
}

func TestEuclidSteps(t *testing.T) {
	for _, c := range []struct {
		a, b int64
		want [][]int64
	}{
		{7, 4, [][]int64{{1, 4}, {1, 3}, {3, 1}}},
		{4, 7, [][]int64{{0, 7}, {1, 4}, {1, 3}, {3, 1}}},
		{6, 4, [][]int64{{1, 4}, {2, 2}}},
		{1, 1, [][]int64{{1, 1}}},
		{6, 3, [][]int64{{2, 3}}},
		{1, most, [][]int64{{0, most}, {most, 1}}},
		{most, 1, [][]int64{{most, 1}}},
		{most, most, [][]int64{{1, most}}},
	} {
		steps, code := impl.EuclidSteps(c.a, c.b)
		if !slices.EqualFunc(steps, c.want, slices.Equal) || code != impl.ErrNone {
			t.Errorf("EuclidSteps(%d, %d) = %v, %d", c.a, c.b, steps, code)
		}
	}
}

// TestStepsSum checks promise 1: the sum of all q r r is a times b.
func TestStepsSum(t *testing.T) {
	for _, p := range append(smallPairs(), largePairs()...) {
		steps, code := impl.EuclidSteps(p[0], p[1])
		var sum int64
		for _, s := range steps {
			sum += s[0] * s[1] * s[1]
		}
		if sum != p[0]*p[1] || code != impl.ErrNone {
			t.Errorf("EuclidSteps(%d, %d) = %v, %d with the sum %d", p[0], p[1], steps, code, sum)
		}
		if d, _ := impl.CommonDivisor(p[0], p[1]); steps[len(steps)-1][1] != d || steps[0][1] != p[1] {
			t.Errorf("EuclidSteps(%d, %d) = %v does not lead from %d to %d", p[0], p[1], steps, p[1], d)
		}
	}
}

func TestEuclidStepsShareNothing(t *testing.T) {
	steps, _ := impl.EuclidSteps(7, 4)
	_ = append(steps[0], 50)
	_ = append(steps[1], 60)
	steps[0][0], steps[1][1] = 90, 91
	if !slices.EqualFunc(steps, [][]int64{{90, 4}, {1, 91}, {3, 1}}, slices.Equal) {
		t.Errorf("steps share memory: %v", steps)
	}
	if again, _ := impl.EuclidSteps(7, 4); !slices.Equal(again[0], []int64{1, 4}) {
		t.Errorf("steps of another call share memory: %v", again)
	}
}

func TestContinuedFraction(t *testing.T) {
	for _, c := range []struct {
		a, b int64
		want []int64
	}{
		{7, 4, []int64{1, 1, 3}}, {4, 7, []int64{0, 1, 1, 3}}, {14, 8, []int64{1, 1, 3}}, {1, 1, []int64{1}},
		{5, 1, []int64{5}}, {1, 5, []int64{0, 5}}, {most, most, []int64{1}}, {most, 1, []int64{most}},
		{1, most, []int64{0, most}}, {701408733, 433494437, append(repeated(1, 41), 2)},
	} {
		if list, code := impl.ContinuedFraction(c.a, c.b); !slices.Equal(list, c.want) || code != impl.ErrNone {
			t.Errorf("ContinuedFraction(%d, %d) = %v, %d", c.a, c.b, list, code)
		}
	}
}

// TestContinuedFractionValues checks promise 1: continued fractions have their fractions as values.
func TestContinuedFractionValues(t *testing.T) {
	for _, p := range append(smallPairs(), largePairs()...) {
		list, code := impl.ContinuedFraction(p[0], p[1])
		if code != impl.ErrNone {
			t.Fatalf("ContinuedFraction(%d, %d): code %d", p[0], p[1], code)
		}
		want, _ := impl.MakeFraction(p[0], p[1])
		if f, code := impl.FractionValue(list); f != want || code != impl.ErrNone {
			t.Errorf("value of %v, of %d / %d: %v, %d", list, p[0], p[1], f, code)
		}
	}
}

func TestStepsRange(t *testing.T) {
	for _, n := range append(outsideNumbers(), 0, -1, -most) {
		for _, p := range [][2]int64{{n, 1}, {1, n}, {most, n}, {n, most}, {n, n}} {
			if steps, code := impl.EuclidSteps(p[0], p[1]); len(steps) != 0 || code != impl.ErrRange {
				t.Errorf("EuclidSteps(%d, %d) = %v, %d", p[0], p[1], steps, code)
			}
			if list, code := impl.ContinuedFraction(p[0], p[1]); len(list) != 0 || code != impl.ErrRange {
				t.Errorf("ContinuedFraction(%d, %d) = %v, %d", p[0], p[1], list, code)
			}
			if list, code := impl.NegativeFraction(p[0], p[1]); len(list) != 0 || code != impl.ErrRange {
				t.Errorf("NegativeFraction(%d, %d) = %v, %d", p[0], p[1], list, code)
			}
		}
	}
}

// valueCase is a list, and its value or its error.
type valueCase struct {
	list []int64
	want impl.Fraction
	code int64
}

func checkValues(t *testing.T, name string, value func([]int64) (impl.Fraction, int64), cases []valueCase) {
	t.Helper()
	for _, c := range cases {
		checkListKept(t, name, c.list, func(list []int64) {
			if f, code := value(list); f != c.want || code != c.code {
				t.Errorf("%s(%v) = %v, %d; wanted %v, %d", name, list, f, code, c.want, c.code)
			}
		})
	}
}

func TestFractionValue(t *testing.T) {
	none := impl.Fraction{}
	cases := []valueCase{
		{[]int64{1, 1, 3}, fraction(7, 4), impl.ErrNone},
		{[]int64{1, 1, 2, 1}, fraction(7, 4), impl.ErrNone},
		{[]int64{0, 1, 1, 3}, fraction(4, 7), impl.ErrNone},
		{[]int64{0}, fraction(0, 1), impl.ErrNone},
		{[]int64{1}, fraction(1, 1), impl.ErrNone},
		{[]int64{0, 1}, fraction(1, 1), impl.ErrNone},
		{[]int64{most}, fraction(most, 1), impl.ErrNone},
		{[]int64{0, most}, fraction(1, most), impl.ErrNone},
		{[]int64{1, most - 1}, fraction(most, most-1), impl.ErrNone},
		{[]int64{1, most}, none, impl.ErrLimit},
		{[]int64{0, 1, most}, none, impl.ErrLimit},
		{[]int64{most, 2}, none, impl.ErrLimit},
		{[]int64{most - 1, 1}, fraction(most, 1), impl.ErrNone},
		{[]int64{most, 1}, none, impl.ErrLimit},
		{[]int64{most, most, most}, none, impl.ErrLimit},
		{repeated(1, 43), fraction(701408733, 433494437), impl.ErrNone},
		{append([]int64{0}, repeated(1, 43)...), fraction(433494437, 701408733), impl.ErrNone},
		{repeated(1, 44), none, impl.ErrLimit},
		{append([]int64{0}, repeated(1, 44)...), none, impl.ErrLimit},
		{repeated(1, 64), none, impl.ErrLimit},
		{repeated(most, 64), none, impl.ErrLimit},
		{repeated(1, 65), none, impl.ErrRange},
		{nil, none, impl.ErrRange},
		{[]int64{}, none, impl.ErrRange},
		{[]int64{-1}, none, impl.ErrRange},
		{[]int64{-1, 2}, none, impl.ErrRange},
		{[]int64{0, 0}, none, impl.ErrRange},
		{[]int64{1, 0, 1}, none, impl.ErrRange},
		{[]int64{1, 1, 0}, none, impl.ErrRange},
		{[]int64{1, -1}, none, impl.ErrRange},
		{append([]int64{0}, repeated(most, 63)...), none, impl.ErrLimit},
		{append(repeated(most, 63), 0), none, impl.ErrRange},
	}
	for _, n := range outsideNumbers() {
		cases = append(cases, valueCase{[]int64{n}, none, impl.ErrRange}, valueCase{[]int64{1, n}, none, impl.ErrRange},
			valueCase{[]int64{n, 1}, none, impl.ErrRange}, valueCase{[]int64{n, most, most}, none, impl.ErrRange})
	}
	checkValues(t, "FractionValue", impl.FractionValue, cases)
}

func TestNegativeValue(t *testing.T) {
	none := impl.Fraction{}
	cases := []valueCase{
		{[]int64{3, 2, 2}, fraction(7, 3), impl.ErrNone},
		{[]int64{2}, fraction(2, 1), impl.ErrNone},
		{[]int64{2, 2}, fraction(3, 2), impl.ErrNone},
		{[]int64{2, 3}, fraction(5, 3), impl.ErrNone},
		{[]int64{3, 2}, fraction(5, 2), impl.ErrNone},
		{[]int64{most}, fraction(most, 1), impl.ErrNone},
		{[]int64{2, 500000000}, fraction(most-1, 500000000), impl.ErrNone},
		{[]int64{2, 2, 333333334}, fraction(most, 666666667), impl.ErrNone},
		{[]int64{500000001, 2}, none, impl.ErrLimit},
		{[]int64{2, 500000001}, none, impl.ErrLimit},
		{[]int64{500000000, 2}, fraction(most-1, 2), impl.ErrNone},
		{[]int64{most, most}, none, impl.ErrLimit},
		{repeated(2, 64), fraction(65, 64), impl.ErrNone},
		{repeated(3, 64), none, impl.ErrLimit},
		{repeated(most, 64), none, impl.ErrLimit},
		{repeated(2, 65), none, impl.ErrRange},
		{nil, none, impl.ErrRange},
		{[]int64{}, none, impl.ErrRange},
		{[]int64{1}, none, impl.ErrRange},
		{[]int64{0}, none, impl.ErrRange},
		{[]int64{-2}, none, impl.ErrRange},
		{[]int64{1, 2}, none, impl.ErrRange},
		{[]int64{2, 1}, none, impl.ErrRange},
		{[]int64{2, 1, 2}, none, impl.ErrRange},
		{append(repeated(most, 63), 1), none, impl.ErrRange},
	}
	for _, n := range outsideNumbers() {
		cases = append(cases, valueCase{[]int64{n}, none, impl.ErrRange}, valueCase{[]int64{2, n}, none, impl.ErrRange},
			valueCase{[]int64{n, 2}, none, impl.ErrRange}, valueCase{[]int64{n, most, most}, none, impl.ErrRange})
	}
	checkValues(t, "NegativeValue", impl.NegativeValue, cases)
}

func TestNegativeFraction(t *testing.T) {
	for _, c := range []struct {
		a, b int64
		want []int64
		code int64
	}{
		{7, 3, []int64{3, 2, 2}, impl.ErrNone},
		{2, 1, []int64{2}, impl.ErrNone},
		{5, 3, []int64{2, 3}, impl.ErrNone},
		{most, 1, []int64{most}, impl.ErrNone},
		{most, 7, []int64{142857143, 7}, impl.ErrNone},
		{most - 1, 500000000, []int64{2, 500000000}, impl.ErrNone},
		{701408733, 433494437, append([]int64{2}, append(repeated(3, 20), 2)...), impl.ErrNone},
		{1000, 999, repeated(2, 999), impl.ErrNone},
		{1001, 1000, repeated(2, 1000), impl.ErrNone},
		{1002, 1001, nil, impl.ErrLimit},
		{3003, 1001, nil, impl.ErrState},
		{2004, 2002, nil, impl.ErrState},
		{most, most - 1, nil, impl.ErrLimit},
		{most, most - 2, nil, impl.ErrState},
		{6, 4, nil, impl.ErrState},
		{6, 3, nil, impl.ErrState},
		{1, 1, nil, impl.ErrRange},
		{6, 6, nil, impl.ErrRange},
		{3, 7, nil, impl.ErrRange},
		{4, 6, nil, impl.ErrRange},
		{most, most, nil, impl.ErrRange},
		{most + 1, most, nil, impl.ErrRange},
		{math.MaxInt64, 2, nil, impl.ErrRange},
	} {
		if list, code := impl.NegativeFraction(c.a, c.b); !slices.Equal(list, c.want) || code != c.code {
			t.Errorf("NegativeFraction(%d, %d) = %v, %d", c.a, c.b, list, code)
		}
	}
}

// TestNegativeFractionValues checks that negative continued fractions have their fractions as values.
func TestNegativeFractionValues(t *testing.T) {
	pairs := append(smallPairs(), [2]int64{701408733, 433494437}, [2]int64{987654321, 123456789}, [2]int64{most, 7}, [2]int64{most, 3})
	for _, p := range pairs {
		list, code := impl.NegativeFraction(p[0], p[1])
		d, _ := impl.CommonDivisor(p[0], p[1])
		switch {
		case p[0] <= p[1]:
			if len(list) != 0 || code != impl.ErrRange {
				t.Errorf("NegativeFraction(%d, %d) = %v, %d", p[0], p[1], list, code)
			}
		case d > 1:
			if len(list) != 0 || code != impl.ErrState {
				t.Errorf("NegativeFraction(%d, %d) = %v, %d", p[0], p[1], list, code)
			}
		default:
			f, valueCode := impl.NegativeValue(list)
			if f != fraction(p[0], p[1]) || code != impl.ErrNone || valueCode != impl.ErrNone {
				t.Errorf("NegativeFraction(%d, %d) = %v, %d with the value %v, %d", p[0], p[1], list, code, f, valueCode)
			}
		}
	}
}

func TestMakeFraction(t *testing.T) {
	for _, c := range []struct {
		a, b int64
		want impl.Fraction
		code int64
	}{
		{6, 4, fraction(3, 2), 0}, {6, -4, fraction(-3, 2), 0}, {-6, 4, fraction(-3, 2), 0}, {-6, -4, fraction(3, 2), 0},
		{0, 5, fraction(0, 1), 0}, {0, -5, fraction(0, 1), 0}, {7, 1, fraction(7, 1), 0}, {7, -1, fraction(-7, 1), 0},
		{most, most, fraction(1, 1), 0}, {-most, most, fraction(-1, 1), 0}, {most, -1, fraction(-most, 1), 0},
		{-1, -most, fraction(1, most), 0}, {most, most - 1, fraction(most, most-1), 0},
		{0, 0, fraction(0, 0), impl.ErrState}, {5, 0, fraction(0, 0), impl.ErrState}, {-most, 0, fraction(0, 0), impl.ErrState},
		{most + 1, 0, fraction(0, 0), impl.ErrRange}, {math.MinInt64, 0, fraction(0, 0), impl.ErrRange},
	} {
		if f, code := impl.MakeFraction(c.a, c.b); f != c.want || code != c.code {
			t.Errorf("MakeFraction(%d, %d) = %v, %d", c.a, c.b, f, code)
		}
	}
	for _, n := range outsideNumbers() {
		for _, p := range [][2]int64{{n, 1}, {1, n}, {0, n}, {n, n}} {
			if f, code := impl.MakeFraction(p[0], p[1]); f != fraction(0, 0) || code != impl.ErrRange {
				t.Errorf("MakeFraction(%d, %d) = %v, %d", p[0], p[1], f, code)
			}
		}
	}
}

func TestAddFractions(t *testing.T) {
	none := impl.Fraction{}
	for _, c := range []struct {
		f, g, want impl.Fraction
		code       int64
	}{
		{fraction(1, 2), fraction(-1, 3), fraction(1, 6), 0},
		{fraction(1, 2), fraction(1, 2), fraction(1, 1), 0},
		{fraction(1, 2), fraction(-1, 2), fraction(0, 1), 0},
		{fraction(1, 6), fraction(1, 3), fraction(1, 2), 0},
		{fraction(0, 1), fraction(-5, 7), fraction(-5, 7), 0},
		{fraction(most-1, 1), fraction(1, 1), fraction(most, 1), 0},
		{fraction(most, 1), fraction(1, 1), none, impl.ErrLimit},
		{fraction(1-most, 1), fraction(-1, 1), fraction(-most, 1), 0},
		{fraction(-most, 1), fraction(-1, 1), none, impl.ErrLimit},
		{fraction(1, most), fraction(1, most), fraction(1, most/2), 0},
		{fraction(1, most), fraction(2, most-1), none, impl.ErrLimit},
		{fraction(1, 40000), fraction(1, 25001), none, impl.ErrLimit},
		{fraction(1, 32), fraction(1, 31250001), none, impl.ErrLimit},
		{fraction(1, 31249999), fraction(1, 32), fraction(31250031, 999999968), 0},
		{fraction(1, 512), fraction(1, 1953125), fraction(1953637, most), 0},
		{fraction(1, 7), fraction(1, 142857143), none, impl.ErrLimit},
		{fraction(most, most-1), fraction(-most, most-1), fraction(0, 1), 0},
		{fraction(-most, most-1), fraction(-most, most-1), none, impl.ErrLimit},
	} {
		for _, p := range [][2]impl.Fraction{{c.f, c.g}, {c.g, c.f}} {
			if f, code := impl.AddFractions(p[0], p[1]); f != c.want || code != c.code {
				t.Errorf("AddFractions(%v, %v) = %v, %d", p[0], p[1], f, code)
			}
		}
	}
}

func TestMultiplyFractions(t *testing.T) {
	none := impl.Fraction{}
	for _, c := range []struct {
		f, g, want impl.Fraction
		code       int64
	}{
		{fraction(1, 2), fraction(-1, 3), fraction(-1, 6), 0},
		{fraction(-2, 3), fraction(-3, 2), fraction(1, 1), 0},
		{fraction(0, 1), fraction(-5, 7), fraction(0, 1), 0},
		{fraction(0, 1), fraction(0, 1), fraction(0, 1), 0},
		{fraction(4, 9), fraction(3, 2), fraction(2, 3), 0},
		{fraction(most, 1), fraction(1, most), fraction(1, 1), 0},
		{fraction(most, 1), fraction(-1, 1), fraction(-most, 1), 0},
		{fraction(50000, 1), fraction(20000, 1), fraction(most, 1), 0},
		{fraction(-50000, 1), fraction(20000, 1), fraction(-most, 1), 0},
		{fraction(50000, 1), fraction(20001, 1), none, impl.ErrLimit},
		{fraction(-50000, 1), fraction(20001, 1), none, impl.ErrLimit},
		{fraction(7, 1), fraction(142857143, 1), none, impl.ErrLimit},
		{fraction(7, 1), fraction(-142857143, 1), none, impl.ErrLimit},
		{fraction(1, 50000), fraction(1, 20000), fraction(1, most), 0},
		{fraction(1, 7), fraction(1, 142857143), none, impl.ErrLimit},
		{fraction(most, most-1), fraction(most-1, most), fraction(1, 1), 0},
		{fraction(most, most-1), fraction(-most, most-1), none, impl.ErrLimit},
		{fraction(-most, 1), fraction(-most, 1), none, impl.ErrLimit},
	} {
		for _, p := range [][2]impl.Fraction{{c.f, c.g}, {c.g, c.f}} {
			if f, code := impl.MultiplyFractions(p[0], p[1]); f != c.want || code != c.code {
				t.Errorf("MultiplyFractions(%v, %v) = %v, %d", p[0], p[1], f, code)
			}
		}
	}
}

func TestCompareFractions(t *testing.T) {
	// The fractions in ascending order.
	list := []impl.Fraction{
		fraction(-most, 1), fraction(-most, most-1), fraction(-1, 1), fraction(1-most, most), fraction(-1, 2), fraction(-1, 3),
		fraction(-1, most), fraction(0, 1), fraction(1, most), fraction(1, most-1), fraction(1, 3), fraction(1, 2), fraction(2, 3),
		fraction(most-2, most-1), fraction(most-1, most), fraction(1, 1), fraction(most, most-1), fraction(most-1, 1), fraction(most, 1),
	}
	for i, f := range list {
		for j, g := range list {
			want := int64(0)
			if i < j {
				want = -1
			} else if i > j {
				want = 1
			}
			if n, code := impl.CompareFractions(f, g); n != want || code != impl.ErrNone {
				t.Errorf("CompareFractions(%v, %v) = %d, %d", f, g, n, code)
			}
		}
	}
}

// TestFractionsAgree checks sums, products and comparisons of all small fractions against numbers.
func TestFractionsAgree(t *testing.T) {
	var list []impl.Fraction
	for bottom := int64(1); bottom <= 7; bottom++ {
		for top := int64(-7); top <= 7; top++ {
			f, _ := impl.MakeFraction(top, bottom)
			list = append(list, f)
		}
	}
	for _, f := range list {
		for _, g := range list {
			want, _ := impl.MakeFraction(f.Top*g.Bottom+g.Top*f.Bottom, f.Bottom*g.Bottom)
			if sum, code := impl.AddFractions(f, g); sum != want || code != impl.ErrNone {
				t.Errorf("AddFractions(%v, %v) = %v, %d", f, g, sum, code)
			}
			want, _ = impl.MakeFraction(f.Top*g.Top, f.Bottom*g.Bottom)
			if product, code := impl.MultiplyFractions(f, g); product != want || code != impl.ErrNone {
				t.Errorf("MultiplyFractions(%v, %v) = %v, %d", f, g, product, code)
			}
			n, code := impl.CompareFractions(f, g)
			less, equal := f.Top*g.Bottom < g.Top*f.Bottom, f == g
			if less != (n == -1) || equal != (n == 0) || code != impl.ErrNone {
				t.Errorf("CompareFractions(%v, %v) = %d, %d", f, g, n, code)
			}
		}
	}
}

func TestInvalidFractions(t *testing.T) {
	good := fraction(1, 2)
	bad := []impl.Fraction{
		{}, fraction(1, 0), fraction(2, 4), fraction(0, 2), fraction(0, -1), fraction(1, -2), fraction(-1, -2), fraction(-2, 4),
		fraction(most, most), fraction(most+1, 1), fraction(-most-1, 1), fraction(1, most+1), fraction(1, -most),
		fraction(math.MinInt64, 1), fraction(math.MaxInt64, 1), fraction(1, math.MinInt64), fraction(1, math.MaxInt64),
		fraction(math.MinInt64, math.MinInt64), fraction(math.MinInt64, -1), fraction(0, math.MinInt64),
	}
	for _, f := range bad {
		if text, code := impl.FractionText(f); text != "" || code != impl.ErrInvalid {
			t.Errorf("FractionText(%v) = %q, %d", f, text, code)
		}
		for _, p := range [][2]impl.Fraction{{f, good}, {good, f}, {f, f}, {f, fraction(most, 1)}} {
			if sum, code := impl.AddFractions(p[0], p[1]); sum != (impl.Fraction{}) || code != impl.ErrInvalid {
				t.Errorf("AddFractions(%v, %v) = %v, %d", p[0], p[1], sum, code)
			}
			if product, code := impl.MultiplyFractions(p[0], p[1]); product != (impl.Fraction{}) || code != impl.ErrInvalid {
				t.Errorf("MultiplyFractions(%v, %v) = %v, %d", p[0], p[1], product, code)
			}
			if n, code := impl.CompareFractions(p[0], p[1]); n != 0 || code != impl.ErrInvalid {
				t.Errorf("CompareFractions(%v, %v) = %d, %d", p[0], p[1], n, code)
			}
		}
	}
}

func TestFractionTexts(t *testing.T) {
	for text, f := range map[string]impl.Fraction{
		"0": fraction(0, 1), "1": fraction(1, 1), "-1": fraction(-1, 1), "7": fraction(7, 1), "10": fraction(10, 1),
		"-1/3": fraction(-1, 3), "22/7": fraction(22, 7), "1/100": fraction(1, 100), "-100/9": fraction(-100, 9),
		"999999999": fraction(most-1, 1), "-999999999": fraction(1-most, 1), "1/999999999": fraction(1, most-1),
		"999999998/999999999": fraction(most-2, most-1), "-999999999/999999998": fraction(1-most, most-2),
	} {
		if s, code := impl.FractionText(f); s != text || code != impl.ErrNone {
			t.Errorf("FractionText(%v) = %q, %d", f, s, code)
		}
		if g, code := impl.ParseFraction(text); g != f || code != impl.ErrNone {
			t.Errorf("ParseFraction(%q) = %v, %d", text, g, code)
		}
	}
	// Texts with numbers of ten digits are made, but not parsed.
	for text, f := range map[string]impl.Fraction{
		"1000000000": fraction(most, 1), "-1000000000": fraction(-most, 1), "1/1000000000": fraction(1, most),
		"1000000000/999999999": fraction(most, most-1), "-999999999/1000000000": fraction(1-most, most),
	} {
		if s, code := impl.FractionText(f); s != text || code != impl.ErrNone {
			t.Errorf("FractionText(%v) = %q, %d", f, s, code)
		}
		if g, code := impl.ParseFraction(text); g != (impl.Fraction{}) || code != impl.ErrSyntax {
			t.Errorf("ParseFraction(%q) = %v, %d", text, g, code)
		}
	}
}

// TestTextsComeBack checks promise 1: texts are parsed to their fractions.
func TestTextsComeBack(t *testing.T) {
	for _, p := range append(smallPairs(), [2]int64{999999937, 999999936}, [2]int64{123456789, 987654320}) {
		for _, sign := range []int64{1, 0, -1} {
			f, _ := impl.MakeFraction(sign*p[0], p[1])
			text, code := impl.FractionText(f)
			if code != impl.ErrNone {
				t.Fatalf("FractionText(%v): code %d", f, code)
			}
			if g, code := impl.ParseFraction(text); g != f || code != impl.ErrNone {
				t.Errorf("ParseFraction(%q) = %v, %d", text, g, code)
			}
		}
	}
}

func TestParseFractionSyntax(t *testing.T) {
	for _, text := range []string{
		"", "-", "/", "-/", "+", "+1", "+0", "-0", "--1", "-+1", "+-1", "1-", "00", "01", "-01", "007", "-00", "0/1", "0/2", "-0/1", "-0/3",
		"1/", "/2", "-/2", "1/0", "0/0", "1/1", "7/1", "-7/1", "1/01", "1/02", "01/2", "1/-2", "-1/-2", "1/+2", "+1/2", "2/4", "-2/4", "6/3",
		"1/2/3", "1/2/", "1//2", "/1/2", " 1", "1 ", " ", "1 /2", "1/ 2", "1/2 ", " 1/2", "1\n", "1/2\n", "\t1", "1.0", "1,2", "1e3", "0x1", "1_0",
		"a", "-a", "1/a", "a/2", "1a", "a1", "1:", "1/;", ";", "\x00", "1\x00", "\xff", "１", "1/２", "½", "−1", "٣",
		"1000000000", "-1000000000", "1/1000000000", "1234567890", "0000000001", "000000000", "1/0000000002", "9999999999",
		"9223372036854775807", "-9223372036854775808", "9223372036854775808", "18446744073709551617", "18446744073709551617/2",
		"1/18446744073709551618", "99999999999999999999999999999999999999999999",
	} {
		if f, code := impl.ParseFraction(text); f != (impl.Fraction{}) || code != impl.ErrSyntax {
			t.Errorf("ParseFraction(%q) = %v, %d", text, f, code)
		}
	}
}
