package tests

import (
	"math"
	"slices"
	"testing"

	"loop.example/g01140/impl"
)

// fraction shortens the literals of fractions.
func fraction(top, bottom int64) impl.Fraction {
	return impl.Fraction{Top: top, Bottom: bottom}
}

// repeated returns a list of count numbers n.
func repeated(n int64, count int) []int64 {
	return slices.Repeat([]int64{n}, count)
}

// outsideNumbers returns numbers that are no integers of chapter 1: those next to the limits, and
// the ends of int64, at which negations and sums overflow.
func outsideNumbers() []int64 {
	return []int64{impl.MaxInteger + 1, -impl.MaxInteger - 1, math.MaxInt64, math.MinInt64, math.MaxInt64 - 1, math.MinInt64 + 1}
}

// checkListKept calls f on a list with spare capacity, and checks that f changes neither of them.
func checkListKept(t *testing.T, name string, list []int64, f func(list []int64)) {
	t.Helper()
	whole := append(slices.Clone(list), 71, 72, 73)
	f(whole[:len(list)])
	if !slices.Equal(whole[:len(list)], list) || !slices.Equal(whole[len(list):], []int64{71, 72, 73}) {
		t.Errorf("%s changes its argument: %v is now %v", name, list, whole)
	}
}
