package tests

import (
	"math"
	"math/rand"
	"slices"
	"testing"

	"loop.example/g01140/impl"
)

// mostDiscrepancy is the limit of DiscrepanciesOf.
const mostDiscrepancy = 1000000000000

// outsidePoints returns numbers that are neither in 1..MaxPoints nor in 0..MaxPoints - 1.
func outsidePoints() []int64 {
	return []int64{-1, -2, -mostPoints, mostPoints + 1, mostPoints + 2, 2 * mostPoints, 1 << 32, 1<<32 + 1, 1<<32 + 2, -1 << 32, math.MaxInt64, math.MaxInt64 - 1, math.MaxInt64 - 2, math.MinInt64, math.MinInt64 + 1, math.MinInt64 + 2}
}

// slowMultiplicities returns the multiplicities of the first k points of a branch by blowing it up.
func slowMultiplicities(terms []int64, k int) []int64 {
	return append(slowSequence(terms), repeated(1, k)...)[:k]
}

// slowProximates returns the points to which each point is proximate, by the sums of the definition.
func slowProximates(multiplicities []int64) [][]int64 {
	proximates := make([][]int64, len(multiplicities))
	for j := range multiplicities {
		for i := range j {
			var sum int64
			for _, m := range multiplicities[i+1 : j+1] {
				if sum += m; sum > multiplicities[i] {
					break
				}
			}
			if sum <= multiplicities[i] {
				proximates[j] = append(proximates[j], int64(i))
			}
		}
	}
	return proximates
}

// slowCode returns the code of points by the least point to which each one is proximate.
func slowCode(proximates [][]int64) []int64 {
	var code []int64
	for j := 1; j < len(proximates); j++ {
		if len(proximates[j]) < 2 {
			code = append(code, 0)
		} else {
			code = append(code, int64(j)-slices.Min(proximates[j]))
		}
	}
	return code
}

// proximatesOfCode returns the points to which the points with a code are proximate.
func proximatesOfCode(code []int64) [][]int64 {
	proximates := [][]int64{nil}
	for i, c := range code {
		if c == 0 {
			proximates = append(proximates, []int64{int64(i)})
		} else {
			proximates = append(proximates, []int64{int64(i) + 1 - c, int64(i)})
		}
	}
	return proximates
}

// countSatellites counts the points that are proximate to two others.
func countSatellites(proximates [][]int64) int64 {
	var count int64
	for _, list := range proximates {
		if len(list) == 2 {
			count++
		}
	}
	return count
}

// slowSums returns for each point its own number plus the sums of the points to which it is proximate.
func slowSums(proximates [][]int64, own []int64) []int64 {
	sums := slices.Clone(own)
	for j, list := range proximates {
		for _, i := range list {
			sums[j] += sums[i]
		}
	}
	return sums
}

// slowCurvette returns the multiplicities of the curvette at the last one of some points: each is the
// sum over all points that are proximate to it. Numbers far beyond the limits are cut down.
func slowCurvette(proximates [][]int64) []int64 {
	last := len(proximates) - 1
	multiplicities := repeated(0, last+1)
	multiplicities[last] = 1
	for i := last - 1; i >= 0; i-- {
		for j := i + 1; j <= last; j++ {
			if slices.Contains(proximates[j], int64(i)) {
				multiplicities[i] = min(multiplicities[i]+multiplicities[j], 1000000)
			}
		}
	}
	return multiplicities
}

// slowIsCode tells whether a list is a code: a satellite lies on the exceptional curve of the point
// before it and on that of a point to which this is proximate.
func slowIsCode(list []int64) bool {
	if len(list) > mostPoints-1 {
		return false
	}
	proximates := [][]int64{nil}
	for n, c := range list {
		before := proximates[n]
		switch {
		case c == 0:
			proximates = append(proximates, []int64{int64(n)})
		case slices.Contains(before, int64(n)+1-c):
			proximates = append(proximates, []int64{int64(n) + 1 - c, int64(n)})
		default:
			return false
		}
	}
	return true
}

// pointBranches returns branches with up to six pairs: all with small terms, some at the limits of
// chapter 3 and of the count of points, and random ones.
func pointBranches() [][]int64 {
	return slices.Concat(branchesWithin(9, 22), wideBranches()[:300], edgeBranches(), [][]int64{{12, 18, 20, 21}, {24, 36, 40, 42, 43}, {16, 24, 28, 30, 31}, {18, 27, 30, 31}})
}

// somePoints returns numbers in 1..MaxPoints: both ends, those around the end of a sequence, and random
// ones.
func somePoints(r *rand.Rand, count int) []int64 {
	numbers := []int64{1, 2, 3, mostPoints - 1, mostPoints, 1 + r.Int63n(mostPoints), 1 + r.Int63n(int64(min(count, mostPoints)))}
	for k := count - 2; k <= count+2; k++ {
		if k >= 1 && k <= mostPoints {
			numbers = append(numbers, int64(k))
		}
	}
	return numbers
}

// pointFunction is a function of a branch and a number, whose results are put into lists.
type pointFunction func(b impl.Branch, n int64) ([][]int64, int64)

// ofList makes a function that returns a list a pointFunction.
func ofList(f func(b impl.Branch, n int64) ([]int64, int64)) pointFunction {
	return func(b impl.Branch, n int64) ([][]int64, int64) {
		list, code := f(b, n)
		if len(list) == 0 {
			return nil, code
		}
		return [][]int64{list}, code
	}
}

// ofNumber makes a function that returns a number a pointFunction. The zero value is no list.
func ofNumber(f func(b impl.Branch, n int64) (int64, int64)) pointFunction {
	return ofList(func(b impl.Branch, n int64) ([]int64, int64) {
		x, code := f(b, n)
		if x == 0 {
			return nil, code
		}
		return []int64{x}, code
	})
}

// countedFunctions returns the functions of the first k points.
func countedFunctions() map[string]pointFunction {
	return map[string]pointFunction{
		"MultiplicitiesAt": ofList(impl.MultiplicitiesAt), "ProximatesOf": impl.ProximatesOf, "CodeOf": ofList(impl.CodeOf), "CountSatellites": ofNumber(impl.CountSatellites),
		"OrdersOf": ofList(impl.OrdersOf), "DiscrepanciesOf": ofList(impl.DiscrepanciesOf),
	}
}

// placedFunctions returns the functions of the point j.
func placedFunctions() map[string]pointFunction {
	return map[string]pointFunction{
		"CurvetteAt":   ofList(func(b impl.Branch, j int64) ([]int64, int64) { c, code := impl.CurvetteAt(b, j); return c.Terms, code }),
		"MeetCurvette": ofNumber(impl.MeetCurvette),
	}
}

// checkPoints checks a result of a pointFunction, and writes all over it.
func checkPoints(t *testing.T, name string, f pointFunction, b impl.Branch, n int64, want [][]int64, wantCode int64) {
	t.Helper()
	x, code := f(b, n)
	if !sameLists(x, want) || code != wantCode {
		t.Errorf("%s(%v, %d) = %v, %d; wanted %v, %d", name, b, n, x, code, want, wantCode)
	}
	scribble(x...)
}

// TestInvalidPoints checks that all functions refuse what is no branch, also where a number is out of its
// range.
func TestInvalidPoints(t *testing.T) {
	for _, list := range invalidBranches() {
		b := impl.Branch{Terms: list}
		for _, n := range append(outsidePoints(), 0, 1, 3, mostPoints-1, mostPoints) {
			for name, f := range countedFunctions() {
				checkPoints(t, name, f, b, n, nil, impl.ErrInvalid)
			}
			for name, f := range placedFunctions() {
				checkPoints(t, name, f, b, n, nil, impl.ErrInvalid)
			}
		}
		if f, code := impl.ThresholdOfBranch(b); f != fraction(0, 0) || code != impl.ErrInvalid {
			t.Errorf("ThresholdOfBranch(%v) = %v, %d", list, f, code)
		}
	}
}

// TestPointsOutOfRange checks k and j out of their ranges, and both ends of these.
func TestPointsOutOfRange(t *testing.T) {
	for _, terms := range append(wideBranches()[:30], []int64{1}, []int64{2, 3}, []int64{4, 6, 7}, []int64{2, 797}, []int64{2, 799}) {
		b := impl.Branch{Terms: terms}
		for name, f := range countedFunctions() {
			for _, k := range append(outsidePoints(), 0, mostPoints+1) {
				checkPoints(t, name, f, b, k, nil, impl.ErrRange)
			}
			for _, k := range []int64{1, mostPoints} {
				if x, code := f(b, k); code != impl.ErrNone {
					t.Errorf("%s(%v, %d) = %v, %d", name, terms, k, x, code)
				}
			}
		}
		for name, f := range placedFunctions() {
			for _, j := range append(outsidePoints(), -1, mostPoints) {
				checkPoints(t, name, f, b, j, nil, impl.ErrRange)
			}
			for _, j := range []int64{0, mostPoints - 1} {
				if x, code := f(b, j); len(x) != 1 || code != impl.ErrNone {
					t.Errorf("%s(%v, %d) = %v, %d", name, terms, j, x, code)
				}
			}
		}
	}
}

// pointCase is a branch with what follows from its first points. It has a curvette for each of them.
type pointCase struct {
	terms, multiplicities []int64
	proximates            [][]int64
	code                  []int64
	satellites            int64
	orders, discrepancies []int64
	curvettes             [][]int64
	threshold             impl.Fraction
}

func pointCases() []pointCase {
	smooth := []int64{1}
	return []pointCase{
		{
			[]int64{1}, []int64{1, 1, 1, 1}, [][]int64{nil, {0}, {1}, {2}}, []int64{0, 0, 0}, 0,
			[]int64{1, 2, 3, 4}, []int64{1, 2, 3, 4}, [][]int64{smooth, smooth, smooth, smooth}, fraction(2, 1),
		},
		{
			[]int64{2, 3}, []int64{2, 1, 1, 1, 1}, [][]int64{nil, {0}, {0, 1}, {2}, {3}}, []int64{0, 2, 0, 0}, 1,
			[]int64{2, 3, 6, 7, 8}, []int64{1, 2, 4, 5, 6}, [][]int64{smooth, smooth, {2, 3}, {2, 3}, {2, 3}}, fraction(5, 6),
		},
		{
			[]int64{2, 5}, []int64{2, 2, 1, 1, 1}, [][]int64{nil, {0}, {1}, {1, 2}, {3}}, []int64{0, 0, 2, 0}, 1,
			[]int64{2, 4, 5, 10, 11}, []int64{1, 2, 3, 6, 7}, [][]int64{smooth, smooth, smooth, {2, 5}, {2, 5}}, fraction(7, 10),
		},
		{
			[]int64{3, 4}, []int64{3, 1, 1, 1, 1}, [][]int64{nil, {0}, {0, 1}, {0, 2}, {3}}, []int64{0, 2, 3, 0}, 2,
			[]int64{3, 4, 8, 12, 13}, []int64{1, 2, 4, 6, 7}, [][]int64{smooth, smooth, {2, 3}, {3, 4}, {3, 4}}, fraction(7, 12),
		},
		{
			[]int64{3, 5}, []int64{3, 2, 1, 1, 1}, [][]int64{nil, {0}, {0, 1}, {1, 2}, {3}}, []int64{0, 2, 2, 0}, 2,
			[]int64{3, 5, 9, 15, 16}, []int64{1, 2, 4, 7, 8}, [][]int64{smooth, smooth, {2, 3}, {3, 5}, {3, 5}}, fraction(8, 15),
		},
		{
			[]int64{4, 6, 7}, []int64{4, 2, 2, 1, 1, 1}, [][]int64{nil, {0}, {0, 1}, {2}, {2, 3}, {4}}, []int64{0, 2, 0, 2, 0}, 2,
			[]int64{4, 6, 12, 13, 26, 27}, []int64{1, 2, 4, 5, 10, 11}, [][]int64{smooth, smooth, {2, 3}, {2, 3}, {4, 6, 7}, {4, 6, 7}}, fraction(5, 12),
		},
		{
			[]int64{6, 10, 11}, []int64{6, 4, 2, 2, 1, 1}, [][]int64{nil, {0}, {0, 1}, {1, 2}, {3}, {3, 4}}, []int64{0, 2, 2, 0, 2}, 3,
			[]int64{6, 10, 18, 30, 31, 62}, []int64{1, 2, 4, 7, 8, 16}, [][]int64{smooth, smooth, {2, 3}, {3, 5}, {3, 5}, {6, 10, 11}}, fraction(4, 15),
		},
		{
			[]int64{12, 18, 20, 21}, []int64{12, 6, 6, 2, 2, 2, 1, 1}, [][]int64{nil, {0}, {0, 1}, {2}, {2, 3}, {2, 4}, {5}, {5, 6}}, []int64{0, 2, 0, 2, 3, 0, 2}, 4,
			[]int64{12, 18, 36, 38, 76, 114, 115, 230}, []int64{1, 2, 4, 5, 10, 15, 16, 32}, [][]int64{smooth, smooth, {2, 3}, {2, 3}, {4, 6, 7}, {6, 9, 10}, {6, 9, 10}, {12, 18, 20, 21}}, fraction(5, 36),
		},
	}
}

// TestPointCases checks all functions of a branch at all beginnings of the cases.
func TestPointCases(t *testing.T) {
	for _, c := range pointCases() {
		checkBranchKept(t, "a function of chapter 6", c.terms, func(b impl.Branch) {
			for k := 1; k <= len(c.multiplicities); k++ {
				checkPointCase(t, c, b, k)
			}
			if f, code := impl.ThresholdOfBranch(b); f != c.threshold || code != impl.ErrNone {
				t.Errorf("ThresholdOfBranch(%v) = %v, %d; wanted %v", b, f, code, c.threshold)
			}
		})
	}
}

// checkPointCase checks the first k points of a case, and the last one of them.
func checkPointCase(t *testing.T, c pointCase, b impl.Branch, k int) {
	t.Helper()
	satellites := countSatellites(c.proximates[:k])
	if k == len(c.proximates) && satellites != c.satellites {
		t.Fatalf("%v has %d satellites", c.terms, satellites)
	}
	checkFirstPoints(t, b, c.multiplicities[:k], c.proximates[:k], c.code[:k-1], satellites, c.orders[:k], c.discrepancies[:k])
	last := int64(k - 1)
	checkPoints(t, "CurvetteAt", placedFunctions()["CurvetteAt"], b, last, [][]int64{c.curvettes[last]}, impl.ErrNone)
	checkPoints(t, "MeetCurvette", placedFunctions()["MeetCurvette"], b, last, [][]int64{{c.orders[last]}}, impl.ErrNone)
}

// checkFirstPoints checks all functions of the first points of a branch.
func checkFirstPoints(t *testing.T, b impl.Branch, multiplicities []int64, proximates [][]int64, pointCode []int64, satellites int64, orders, discrepancies []int64) {
	t.Helper()
	k := int64(len(multiplicities))
	want := map[string][]int64{"MultiplicitiesAt": multiplicities, "CodeOf": pointCode, "OrdersOf": orders, "DiscrepanciesOf": discrepancies}
	if satellites > 0 {
		want["CountSatellites"] = []int64{satellites}
	}
	for name, f := range countedFunctions() {
		lists := proximates
		if name != "ProximatesOf" {
			lists = nil
			if len(want[name]) > 0 {
				lists = [][]int64{want[name]}
			}
		}
		checkPoints(t, name, f, b, k, lists, impl.ErrNone)
	}
}

// TestPointsOfBranches checks all functions of the first points against those that the test makes from
// the sequence.
func TestPointsOfBranches(t *testing.T) {
	r := rand.New(rand.NewSource(61))
	pairs := map[int]int{}
	for _, terms := range pointBranches() {
		pairs[len(terms)-1]++
		b := impl.Branch{Terms: terms}
		all := slowMultiplicities(terms, mostPoints)
		proximates := slowProximates(all)
		orders, discrepancies := slowSums(proximates, all), slowSums(proximates, repeated(1, mostPoints))
		code := slowCode(proximates)
		numbers := somePoints(r, len(slowSequence(terms)))
		if len(slowSequence(terms)) < 12 {
			for k := int64(1); k < 15; k++ {
				numbers = append(numbers, k)
			}
		}
		for _, k := range numbers {
			checkFirstPoints(t, b, all[:k], proximates[:k], code[:k-1], countSatellites(proximates[:k]), orders[:k], discrepancies[:k])
		}
	}
	if pairs[0] == 0 || pairs[1] < 150 || pairs[2] < 100 || pairs[3] < 30 || pairs[6] == 0 {
		t.Errorf("numbers of pairs are %v", pairs)
	}
}

// TestPointsWhereRunsEnd checks the points at which the runs of a branch end by its terms: the order of
// the last one of the run i is n(i) v(i), and its discrepancy is (n + b(i)) / e(i) - 1.
func TestPointsWhereRunsEnd(t *testing.T) {
	ends := 0
	for _, terms := range append(pointBranches(), wideBranches()...) {
		e, generators := slowDivisors(terms), slowGenerators(terms)
		b := impl.Branch{Terms: terms}
		orders, _ := impl.OrdersOf(b, mostPoints)
		discrepancies, _ := impl.DiscrepanciesOf(b, mostPoints)
		for i := 1; i < len(terms); i++ {
			end := len(slowRuns(terms[:i+1])) - 1
			if end >= mostPoints {
				continue
			}
			ends++
			if want := e[i-1] / e[i] * generators[i]; orders[end] != want {
				t.Errorf("OrdersOf(%v) has %d at %d, where the run %d ends; wanted %d", terms, orders[end], end, i, want)
			}
			if want := (terms[0]+terms[i])/e[i] - 1; discrepancies[end] != want {
				t.Errorf("DiscrepanciesOf(%v) has %d at %d, where the run %d ends; wanted %d", terms, discrepancies[end], end, i, want)
			}
		}
	}
	if ends < 3000 {
		t.Errorf("only %d runs end", ends)
	}
}

// TestDiscrepanciesAreSmall checks that the discrepancies of branches at the limits of chapter 3 stay below
// the limit of DiscrepanciesOf, so that it returns no ErrState: behind a run they are (n + b(i)) / e(i) - 1
// and as many more as there are free points.
func TestDiscrepanciesAreSmall(t *testing.T) {
	var greatest int64
	for _, terms := range append(pointBranches(), wideBranches()...) {
		list, code := impl.DiscrepanciesOf(impl.Branch{Terms: terms}, mostPoints)
		if len(list) != mostPoints || code != impl.ErrNone || slices.Min(list) < 1 {
			t.Errorf("DiscrepanciesOf(%v, %d) = %v, %d", terms, mostPoints, list, code)
			continue
		}
		if most := slices.Max(list); most > terms[0]+terms[len(terms)-1]+mostPoints {
			t.Errorf("DiscrepanciesOf(%v, %d) has %d", terms, mostPoints, most)
		}
		greatest = max(greatest, slices.Max(list))
	}
	if greatest < 2000 || greatest > mostN+mostTerm+mostPoints || greatest > mostDiscrepancy {
		t.Errorf("the greatest discrepancy is %d", greatest)
	}
}

// TestProximity checks the first part of promise 6: points are proximate to at most two points, one of
// which is the point before.
func TestProximity(t *testing.T) {
	for _, terms := range append(pointBranches(), wideBranches()...) {
		proximates, code := impl.ProximatesOf(impl.Branch{Terms: terms}, mostPoints)
		if len(proximates) != mostPoints || code != impl.ErrNone {
			t.Fatalf("ProximatesOf(%v, %d) = %v, %d", terms, mostPoints, proximates, code)
		}
		for j, list := range proximates {
			ok := len(list) == 0
			if j > 0 {
				ok = len(list) >= 1 && len(list) <= 2 && list[len(list)-1] == int64(j-1) && list[0] >= 0 && (len(list) == 1 || list[0] < list[1])
			}
			if !ok {
				t.Errorf("ProximatesOf(%v, %d) has %v at %d", terms, mostPoints, list, j)
			}
		}
	}
}

// TestLastCurvettes checks the second part of promise 6: the curvette at the last point of the sequence of a
// branch, and behind it, is this branch, and the one before it is not.
func TestLastCurvettes(t *testing.T) {
	branches, tooLong := 0, 0
	for _, terms := range append(pointBranches(), wideBranches()...) {
		b := impl.Branch{Terms: terms}
		count := len(slowSequence(terms))
		if count > mostPoints {
			tooLong++
			continue
		}
		branches++
		for _, j := range []int{count - 1, count, mostPoints - 1} {
			if j < mostPoints {
				checkPoints(t, "CurvetteAt", placedFunctions()["CurvetteAt"], b, int64(j), [][]int64{terms}, impl.ErrNone)
			}
		}
		if count < 2 {
			continue
		}
		if c, code := impl.CurvetteAt(b, int64(count-2)); slices.Equal(c.Terms, terms) || code != impl.ErrNone {
			t.Errorf("CurvetteAt(%v, %d) = %v, %d, one point too early", terms, count-2, c, code)
		}
	}
	if branches < 3000 || tooLong < 15 {
		t.Errorf("%d branches have few points, %d have too many", branches, tooLong)
	}
}

// isCurvette tells whether a list of terms is the branch whose multiplicities at some points are those of
// a curvette, and 1 behind them.
func isCurvette(terms, multiplicities []int64) bool {
	if !slowIsBranch(terms) {
		return false
	}
	sequence := slowSequence(terms)
	return len(sequence) <= len(multiplicities) && slices.Equal(append(sequence, repeated(1, len(multiplicities)-len(sequence))...), multiplicities)
}

// TestCurvettesAtPoints checks curvettes at all points of branches, and the last part of promise 6: the
// order of a point is the number in which its curvette meets the branch.
func TestCurvettesAtPoints(t *testing.T) {
	r := rand.New(rand.NewSource(62))
	for n, terms := range pointBranches() {
		b := impl.Branch{Terms: terms}
		all := slowMultiplicities(terms, mostPoints)
		proximates := slowProximates(all)
		orders, code := impl.OrdersOf(b, mostPoints)
		if !slices.Equal(orders, slowSums(proximates, all)) || code != impl.ErrNone {
			t.Fatalf("OrdersOf(%v, %d) = %v, %d", terms, mostPoints, orders, code)
		}
		numbers := somePoints(r, len(slowSequence(terms)))
		for k := int64(1); k <= mostPoints && (k < 15 || n%40 == 0); k++ {
			numbers = append(numbers, k)
		}
		for _, k := range numbers {
			curvette := slowCurvette(proximates[:k])
			c, code := impl.CurvetteAt(b, k-1)
			if code != impl.ErrNone || !isCurvette(c.Terms, curvette) {
				t.Errorf("CurvetteAt(%v, %d) = %v, %d; wanted the multiplicities %v", terms, k-1, c, code, curvette)
			}
			var want int64
			for i, m := range curvette {
				want += m * all[i]
			}
			met, code := impl.MeetCurvette(b, k-1)
			if met != want || met != orders[k-1] || code != impl.ErrNone {
				t.Errorf("MeetCurvette(%v, %d) = %d, %d; wanted %d, the order is %d", terms, k-1, met, code, want, orders[k-1])
			}
			scribble(c.Terms)
		}
	}
}

func TestIsCode(t *testing.T) {
	ramp := []int64{0}
	for c := int64(2); len(ramp) < mostPoints; c++ {
		ramp = append(ramp, c)
	}
	for _, c := range []struct {
		list []int64
		want bool
	}{
		{nil, true}, {[]int64{}, true}, {[]int64{0}, true}, {[]int64{0, 0}, true}, {[]int64{0, 2}, true}, {[]int64{0, 2, 0}, true}, {[]int64{0, 2, 2}, true}, {[]int64{0, 2, 3}, true},
		{[]int64{0, 2, 3, 2, 0}, true}, {[]int64{0, 2, 3, 4}, true}, {[]int64{0, 0, 2, 2, 3, 2, 3, 4, 0, 0, 2}, true}, {[]int64{0, 2, 2, 2, 2}, true}, {[]int64{0, 0, 2}, true}, {[]int64{0, 2, 0, 2}, true},
		// The first number is not 0.
		{[]int64{2}, false}, {[]int64{1}, false}, {[]int64{-1}, false}, {[]int64{3}, false}, {[]int64{2, 0}, false}, {[]int64{2, 3}, false}, {[]int64{1, 2}, false}, {[]int64{1, 0}, false},
		// A number that goes on behind 0, or goes on wrongly.
		{[]int64{0, 1}, false}, {[]int64{0, 0, 1}, false}, {[]int64{0, 2, 0, 1}, false}, {[]int64{0, 3}, false}, {[]int64{0, 0, 3}, false}, {[]int64{0, 2, 0, 3}, false}, {[]int64{0, 2, 3, 0, 4}, false},
		{[]int64{0, 2, 1}, false}, {[]int64{0, 2, 4}, false}, {[]int64{0, 2, 3, 3}, false}, {[]int64{0, 2, 3, 5}, false}, {[]int64{0, 2, 3, 4, 3}, false}, {[]int64{0, 2, 3, 2, 4}, false}, {[]int64{0, 2, 3, 1}, false},
		{[]int64{0, -1}, false}, {[]int64{0, 2, -1}, false}, {[]int64{0, 2, -2}, false}, {[]int64{0, 2, 3, -4}, false}, {[]int64{0, -2, -1, 0}, false}, {[]int64{0, -1, 0}, false}, {[]int64{0, 2, 0, 4}, false},
		// MaxPoints - 2, MaxPoints - 1 and MaxPoints numbers.
		{repeated(0, 398), true}, {repeated(0, 399), true}, {repeated(0, 400), false}, {repeated(0, 401), false}, {repeated(0, 100000), false}, {ramp[:398], true}, {ramp[:399], true}, {ramp, false},
		{append([]int64{0}, repeated(2, 398)...), true}, {append([]int64{0}, repeated(2, 399)...), false}, {repeated(2, 399), false}, {append(repeated(0, 398), 2), true}, {append(repeated(0, 398), 3), false}, {append(repeated(0, 399), 2), false},
		{append(slices.Clone(ramp[:398]), 398), false}, {append(slices.Clone(ramp[:398]), 400), false}, {append(slices.Clone(ramp[:398]), 2), true},
	} {
		checkListKept(t, "IsCode", c.list, func(list []int64) {
			if got := impl.IsCode(list); got != c.want || slowIsCode(list) != c.want {
				t.Errorf("IsCode(%v) is %v; wanted %v, by points %v", list, got, c.want, slowIsCode(list))
			}
		})
		if !c.want {
			checkCurvetteOfCode(t, c.list, nil, impl.ErrRange)
		}
	}
}

// checkCurvetteOfCode checks the curvette of a list, and that the list is kept.
func checkCurvetteOfCode(t *testing.T, list, want []int64, wantCode int64) {
	t.Helper()
	checkListKept(t, "CurvetteOfCode", list, func(list []int64) {
		b, code := impl.CurvetteOfCode(list)
		if !slices.Equal(b.Terms, want) || code != wantCode {
			t.Errorf("CurvetteOfCode(%v) = %v, %d; wanted %v, %d", list, b, code, want, wantCode)
		}
		scribble(b.Terms)
	})
}

// TestWrongCodes checks numbers that are far from their ranges, at all places of codes.
func TestWrongCodes(t *testing.T) {
	bad := []int64{-1, -2, -400, 400, 401, 1 << 32, 1<<32 + 2, 1<<32 + 3, -1 << 32, math.MaxInt64, math.MaxInt64 - 1, math.MinInt64, math.MinInt64 + 1, math.MinInt64 + 2}
	for _, list := range [][]int64{{0}, {0, 0}, {0, 2}, {0, 2, 0}, {0, 2, 3}, {0, 2, 2, 3, 4}, repeated(0, 399), append([]int64{0}, repeated(2, 398)...)} {
		for i := range list {
			for _, n := range bad {
				wrong := slices.Clone(list)
				wrong[i] = n
				if impl.IsCode(wrong) {
					t.Errorf("IsCode is true for %d at %d of %v", n, i, list)
				}
				if b, code := impl.CurvetteOfCode(wrong); len(b.Terms) != 0 || code != impl.ErrRange {
					t.Errorf("CurvetteOfCode = %v, %d for %d at %d of %v", b, code, n, i, list)
				}
			}
		}
	}
	for _, list := range [][]int64{{math.MaxInt64, math.MinInt64}, {0, math.MaxInt64, math.MinInt64}, {0, -1, 0}, {0, math.MinInt64, math.MinInt64 + 1}, {0, 2, math.MinInt64, math.MinInt64 + 1}} {
		if impl.IsCode(list) {
			t.Errorf("IsCode(%v) is true", list)
		}
		checkCurvetteOfCode(t, list, nil, impl.ErrRange)
	}
}

// TestShortCodes checks all short lists of small numbers, the curvettes of those that are codes, and that
// these curvettes have the codes and are not those of other codes that end with a satellite.
func TestShortCodes(t *testing.T) {
	codes := map[int]int{}
	of := map[string][]int64{}
	allLists(6, -1, 7, func(list []int64) {
		want := slowIsCode(list)
		if impl.IsCode(list) != want {
			t.Errorf("IsCode(%v) is %v", list, !want)
		}
		if !want {
			if b, code := impl.CurvetteOfCode(list); len(b.Terms) != 0 || code != impl.ErrRange {
				t.Errorf("CurvetteOfCode(%v) = %v, %d", list, b, code)
			}
			return
		}
		codes[len(list)]++
		b, code := impl.CurvetteOfCode(list)
		if curvette := slowCurvette(proximatesOfCode(list)); code != impl.ErrNone || !isCurvette(b.Terms, curvette) {
			t.Errorf("CurvetteOfCode(%v) = %v, %d; wanted the multiplicities %v", list, b, code, curvette)
			return
		}
		if x, code := impl.CodeOf(b, int64(len(list)+1)); !slices.Equal(x, list) || code != impl.ErrNone {
			t.Errorf("CodeOf(%v, %d) = %v, %d; wanted %v", b, len(list)+1, x, code, list)
		}
		if len(list) == 0 || list[len(list)-1] == 0 {
			return
		}
		key := keyOf([][]int64{b.Terms})
		if other, ok := of[key]; ok {
			t.Errorf("CurvetteOfCode is %v for %v and for %v", b, list, other)
		}
		of[key] = list
	})
	// Behind 0 there are two numbers, behind another one three.
	if codes[0] != 1 || codes[1] != 1 || codes[2] != 2 || codes[3] != 5 || codes[4] != 13 || codes[5] != 34 || codes[6] != 89 {
		t.Errorf("numbers of codes are %v", codes)
	}
}

// codeOfRuns returns the code of all points that the runs of a characteristic make, also beyond the limits
// of chapter 3.
func codeOfRuns(terms ...int64) []int64 {
	return slowCode(slowProximates(slowRuns(terms)))
}

func TestCurvetteOfCode(t *testing.T) {
	zeros := func(count int, list ...int64) []int64 { return append(repeated(0, count), list...) }
	for _, c := range []struct {
		list, want []int64
		code       int64
	}{
		{[]int64{0, 2}, []int64{2, 3}, 0}, {nil, []int64{1}, 0}, {[]int64{}, []int64{1}, 0}, {[]int64{0}, []int64{1}, 0}, {[]int64{0, 0}, []int64{1}, 0}, {[]int64{0, 2, 0}, []int64{2, 3}, 0},
		{[]int64{0, 2, 3}, []int64{3, 4}, 0}, {[]int64{0, 2, 2}, []int64{3, 5}, 0}, {[]int64{0, 0, 2}, []int64{2, 5}, 0}, {[]int64{0, 2, 0, 2}, []int64{4, 6, 7}, 0}, {[]int64{0, 2, 0, 0, 2}, []int64{4, 6, 9}, 0},
		{[]int64{0, 2, 0, 2, 0, 0, 0}, []int64{4, 6, 7}, 0}, {[]int64{0, 2, 3, 4, 0, 0}, []int64{4, 5}, 0}, {[]int64{0, 2, 0, 2, 3, 0, 2}, []int64{12, 18, 20, 21}, 0}, {[]int64{0, 2, 2, 0, 2}, []int64{6, 10, 11}, 0},
		// No codes.
		{[]int64{2}, nil, impl.ErrRange}, {[]int64{0, 1}, nil, impl.ErrRange}, {[]int64{0, 3}, nil, impl.ErrRange}, {[]int64{0, 2, 4}, nil, impl.ErrRange}, {zeros(400), nil, impl.ErrRange}, {zeros(399, 2), nil, impl.ErrRange},
		// MaxPoints - 1 numbers.
		{zeros(399), []int64{1}, 0}, {zeros(398, 2), []int64{2, 797}, 0}, {zeros(397, 2, 0), []int64{2, 795}, 0}, {append([]int64{0, 2}, zeros(397)...), []int64{2, 3}, 0}, {zeros(397, 2, 3), []int64{3, 1192}, 0},
		// Multiplicities of 64 and 65, and far beyond.
		{codeOfRuns(64, 65), []int64{64, 65}, 0}, {codeOfRuns(65, 66), nil, impl.ErrState}, {codeOfRuns(63, 64), []int64{63, 64}, 0}, {codeOfRuns(66, 99, 100), nil, impl.ErrState}, {codeOfRuns(longBranch...), longBranch, 0},
		{codeOfRuns(128, 192, 224, 240, 248, 252, 254, 255), nil, impl.ErrState}, {codeOfRuns(89, 144), nil, impl.ErrState}, {codeOfRuns(55, 89), []int64{55, 89}, 0}, {codeOfRuns(64, 96, 97), []int64{64, 96, 97}, 0},
		{append([]int64{0}, repeated(2, 398)...), nil, impl.ErrState}, {slices.Repeat([]int64{0, 2}, 199), nil, impl.ErrState}, {slices.Repeat([]int64{0, 2, 3}, 133), nil, impl.ErrState}, {slices.Repeat([]int64{0, 2, 3, 4}, 99), nil, impl.ErrState},
		{append(slices.Repeat([]int64{0, 2}, 6), zeros(387)...), []int64{64, 96, 112, 120, 124, 126, 127}, 0}, {append(slices.Repeat([]int64{0, 2}, 7), zeros(385)...), nil, impl.ErrState},
		// Terms of 1999, 2000 and 2001, in the first pair and in the last one.
		{codeOfRuns(7, 2000), []int64{7, 2000}, 0}, {codeOfRuns(7, 2001), nil, impl.ErrState}, {codeOfRuns(63, 2000), []int64{63, 2000}, 0}, {codeOfRuns(64, 2001), nil, impl.ErrState}, {codeOfRuns(64, 1999), []int64{64, 1999}, 0},
		{codeOfRuns(12, 18, 1999), []int64{12, 18, 1999}, 0}, {codeOfRuns(12, 18, 2003), nil, impl.ErrState}, {codeOfRuns(27, 36, 2000), []int64{27, 36, 2000}, 0}, {codeOfRuns(28, 42, 2001), nil, impl.ErrState},
		{codeOfRuns(64, 1998, 1999), []int64{64, 1998, 1999}, 0}, {codeOfRuns(64, 2000, 2001), nil, impl.ErrState}, {codeOfRuns(64, 2002, 2003), nil, impl.ErrState}, {codeOfRuns(36, 54, 1998, 2000, 2001), nil, impl.ErrState},
		{codeOfRuns(65, 2001), nil, impl.ErrState}, {zeros(335, codeOfRuns(64, 65)[1:]...), nil, impl.ErrState},
	} {
		checkCurvetteOfCode(t, c.list, c.want, c.code)
	}
}

// TestCurvetteLimits checks the codes of characteristics next to the greatest multiplicity and the greatest
// term.
func TestCurvetteLimits(t *testing.T) {
	codes := map[int64]int{}
	check := func(terms ...int64) {
		t.Helper()
		if !slowDescends(terms) || len(slowRuns(terms)) > mostPoints {
			return
		}
		want, code := terms, int64(impl.ErrNone)
		if terms[0] > mostN || terms[len(terms)-1] > mostTerm {
			want, code = nil, impl.ErrState
		}
		codes[code]++
		checkCurvetteOfCode(t, codeOfRuns(terms...), want, code)
	}
	for n := int64(6); n <= 72; n++ {
		for b := int64(mostTerm - 4); b <= mostTerm+4; b++ {
			check(n, b)
			check(n, b-n, b)
			check(n, n+n/2, b)
			check(n, n+n/3, b)
		}
		for b := n + 1; b < n+12; b++ {
			check(n, b)
			check(n, b, b+1)
		}
	}
	if codes[impl.ErrNone] < 500 || codes[impl.ErrState] < 300 {
		t.Errorf("codes are %v", codes)
	}
}

// randomCode returns a code of some numbers, in which free points are the rarer, the greater the number
// rare is.
func randomCode(r *rand.Rand, count, rare int) []int64 {
	var code []int64
	for n := range count {
		choices := []int64{0}
		if n > 0 {
			choices = append(choices, 2)
		}
		if n > 0 && code[n-1] > 0 {
			choices = append(choices, code[n-1]+1)
		}
		c := choices[r.Intn(len(choices))]
		if r.Intn(10) >= rare {
			c = 0
		}
		code = append(code, c)
	}
	return code
}

// TestRandomCodes checks codes of up to MaxPoints - 1 numbers.
func TestRandomCodes(t *testing.T) {
	r := rand.New(rand.NewSource(63))
	codes := map[int64]int{}
	for n := range 6000 {
		count := r.Intn(40)
		if n%4 == 0 {
			count = r.Intn(mostPoints)
		}
		list := randomCode(r, count, n%10)
		// Most of the long codes lead beyond the limits, if satellites stand in all of their parts.
		if from := r.Intn(20); n%3 == 0 && count > from {
			list = append(list[:from], repeated(0, count-from)...)
		}
		want, wantCode := []int64(nil), int64(impl.ErrState)
		if curvette := slowCurvette(proximatesOfCode(list)); curvette[0] <= mostN {
			if want = slowBranchOfSequence(curvette); want != nil {
				wantCode = impl.ErrNone
			}
		}
		codes[wantCode]++
		if !impl.IsCode(list) {
			t.Errorf("IsCode(%v) is false", list)
		}
		checkCurvetteOfCode(t, list, want, wantCode)
		if wantCode != impl.ErrNone {
			continue
		}
		if x, code := impl.CodeOf(impl.Branch{Terms: want}, int64(len(list)+1)); !slices.Equal(x, list) || code != impl.ErrNone {
			t.Errorf("CodeOf(%v, %d) = %v, %d; wanted %v", want, len(list)+1, x, code, list)
		}
	}
	if codes[impl.ErrNone] < 1500 || codes[impl.ErrState] < 500 {
		t.Errorf("codes are %v", codes)
	}
}

func TestThresholds(t *testing.T) {
	for _, c := range []struct {
		terms       []int64
		top, bottom int64
	}{
		{[]int64{1}, 2, 1}, {[]int64{2, 3}, 5, 6}, {[]int64{2, 1999}, 2001, 3998}, {[]int64{3, 4}, 7, 12}, {[]int64{64, 65}, 129, 4160}, {[]int64{64, 1999}, 2063, 127936}, {[]int64{63, 2000}, 2063, 126000},
		// The multiplicity and the first term have common divisors, and their sum has more.
		{[]int64{4, 6, 7}, 5, 12}, {[]int64{4, 6, 1999}, 5, 12}, {[]int64{6, 9, 10}, 5, 18}, {[]int64{6, 10, 11}, 4, 15}, {[]int64{12, 18, 20, 21}, 5, 36}, {[]int64{4, 10, 11}, 7, 20}, {longBranch, 5, 192},
		{[]int64{6, 30, 32}, 0, 0}, {[]int64{12, 20, 21}, 2, 15}, {[]int64{15, 35, 36}, 2, 21}, {[]int64{20, 30, 31}, 1, 12}, {[]int64{10, 15, 16}, 1, 6}, {[]int64{64, 1998, 1999}, 1031, 63936}, {[]int64{63, 1998, 2000}, 229, 13986},
	} {
		code := int64(impl.ErrNone)
		if c.top == 0 {
			code = impl.ErrInvalid
		}
		checkBranchKept(t, "ThresholdOfBranch", c.terms, func(b impl.Branch) {
			if f, got := impl.ThresholdOfBranch(b); f != fraction(c.top, c.bottom) || got != code {
				t.Errorf("ThresholdOfBranch(%v) = %v, %d; wanted %d/%d", b, f, got, c.top, c.bottom)
			}
		})
	}
}

// TestThresholdsAreLeast checks that the threshold is the least one of the fractions of 1 plus the
// discrepancy over the order of a point, over all points of the sequence, and that it is in lowest terms.
func TestThresholdsAreLeast(t *testing.T) {
	common := 0
	for _, terms := range append(pointBranches(), wideBranches()[:300]...) {
		multiplicities := slowSequence(terms)
		proximates := slowProximates(multiplicities)
		orders, discrepancies := slowSums(proximates, multiplicities), slowSums(proximates, repeated(1, len(proximates)))
		least := 0
		for j := range orders {
			if (1+discrepancies[j])*orders[least] < (1+discrepancies[least])*orders[j] {
				least = j
			}
		}
		top, bottom := 1+discrepancies[least], orders[least]
		d := slowDivisor(top, bottom)
		if f, code := impl.ThresholdOfBranch(impl.Branch{Terms: terms}); f != fraction(top/d, bottom/d) || code != impl.ErrNone {
			t.Errorf("ThresholdOfBranch(%v) = %v, %d; wanted %d/%d", terms, f, code, top/d, bottom/d)
		}
		if len(terms) > 1 && slowDivisor(terms[0], terms[1]) > 1 {
			common++
		}
	}
	if common < 200 {
		t.Errorf("only %d branches have common divisors", common)
	}
}

// TestPointResultsAreNew checks that results share no memory with arguments, with other results, or with
// those of calls before.
func TestPointResultsAreNew(t *testing.T) {
	b := branch(12, 18, 20, 21)
	want := slowProximates(slowMultiplicities(b.Terms, 12))
	lists, _ := impl.ProximatesOf(b, 12)
	for i := range lists {
		scribble(lists[i])
		_ = append(lists[i], -98)
		for k := i + 1; k < len(lists); k++ {
			if !slices.Equal(lists[k], want[k]) {
				t.Errorf("ProximatesOf: list %d shares memory with list %d: %v", i, k, lists)
			}
		}
	}
	functions := countedFunctions()
	for name, f := range placedFunctions() {
		functions[name] = f
	}
	for _, terms := range [][]int64{{12, 18, 20, 21}, {2, 3}, {1}, longBranch, {2, 1999}} {
		for name, f := range functions {
			checkBranchKept(t, name, terms, func(b impl.Branch) {
				first, _ := f(b, 12)
				kept := copyLists(first)
				scribble(first...)
				if x, code := f(b, 12); !sameLists(x, kept) || code != impl.ErrNone {
					t.Errorf("%s(%v, 12): %v, then %v, %d", name, b, kept, x, code)
				}
			})
		}
	}
	smooth := branch(1)
	c, _ := impl.CurvetteAt(smooth, 3)
	scribble(c.Terms)
	if smooth.Terms[0] != 1 {
		t.Errorf("CurvetteAt a point of a smooth branch shares memory with it")
	}
}
