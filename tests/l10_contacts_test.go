package tests

import (
	"math"
	"math/rand"
	"slices"
	"testing"

	"loop.example/g01140/impl"
)

// twoFunction is a function of two branches, whose results are put into lists, none for a zero value.
type twoFunction func(a, b impl.Branch) ([][]int64, int64)

// sharing returns CanShare for c points as a function of two branches.
func sharing(c int64) twoFunction {
	return func(a, b impl.Branch) ([][]int64, int64) { return boolAsLists(impl.CanShare(a, b, c)) }
}

// greatestOf is GreatestCommon with its result in lists.
func greatestOf(a, b impl.Branch) ([][]int64, int64) { return numberAsLists(impl.GreatestCommon(a, b)) }

// meetingWith returns IntersectionWith for c points as a function of two branches.
func meetingWith(c int64) twoFunction {
	return func(a, b impl.Branch) ([][]int64, int64) { return numberAsLists(impl.IntersectionWith(a, b, c)) }
}

// possibleUpTo returns PossibleIntersections up to a number of points as a function of two branches.
func possibleUpTo(most int64) twoFunction {
	return func(a, b impl.Branch) ([][]int64, int64) { return listAsLists(impl.PossibleIntersections(a, b, most)) }
}

// checkTwo checks a result of a function of two branches for both orders of these, that they are kept, and that writing
// all over the result changes nothing of the next one.
func checkTwo(t *testing.T, name string, f twoFunction, p, q []int64, want [][]int64, wantCode int64) {
	t.Helper()
	checkBranchKept(t, name, p, func(a impl.Branch) {
		checkBranchKept(t, name, q, func(b impl.Branch) {
			for _, two := range [][2]impl.Branch{{a, b}, {b, a}} {
				x, code := f(two[0], two[1])
				if !sameLists(x, want) || code != wantCode {
					t.Errorf("%s(%v, %v) = %v, %d; wanted %v, %d", name, two[0], two[1], x, code, want, wantCode)
				}
				scribble(x...)
			}
		})
	})
}

// branchContact is a function of a branch, whose results are put into lists.
type branchContact func(b impl.Branch) ([][]int64, int64)

// semirootFor returns SemirootOf for i as a function of a branch.
func semirootFor(i int64) branchContact {
	return func(b impl.Branch) ([][]int64, int64) {
		c, code := impl.SemirootOf(b, i)
		return listAsLists(c.Terms, code)
	}
}

// checkOne checks a result of a function of a branch twice, that the branch is kept, and writes all over the result.
func checkOne(t *testing.T, name string, f branchContact, terms []int64, want [][]int64, wantCode int64) {
	t.Helper()
	checkBranchKept(t, name, terms, func(b impl.Branch) {
		for range 2 {
			x, code := f(b)
			if !sameLists(x, want) || code != wantCode {
				t.Errorf("%s(%v) = %v, %d; wanted %v, %d", name, b, x, code, want, wantCode)
			}
			scribble(x...)
		}
	})
}

// contactFunctions returns the functions of chapter 10 of a curve alone.
func contactFunctions() map[string]curveFunction {
	return map[string]curveFunction{
		"TangentsOf":       func(c impl.Curve) ([][]int64, int64) { return listAsLists(impl.TangentsOf(c)) },
		"BlowUpCurve":      func(c impl.Curve) ([][]int64, int64) { return copiedCurves(impl.BlowUpCurve(c)) },
		"PolarNumber":      func(c impl.Curve) ([][]int64, int64) { return numberAsLists(impl.PolarNumber(c)) },
		"LeastCurve":       func(c impl.Curve) ([][]int64, int64) { return copiedCurve(impl.LeastCurve(c)) },
		"MultiplicityDrop": func(c impl.Curve) ([][]int64, int64) { return numberAsLists(impl.MultiplicityDrop(c)) },
	}
}

// distanceOf returns DistanceOf two branches as a function of a curve.
func distanceOf(i, k int64) curveFunction {
	return func(c impl.Curve) ([][]int64, int64) { return fractionAsLists(impl.DistanceOf(c, i, k)) }
}

// totalOf returns TotalIntersection of a branch as a function of a curve.
func totalOf(i int64) curveFunction {
	return func(c impl.Curve) ([][]int64, int64) { return numberAsLists(impl.TotalIntersection(c, i)) }
}

// equalityWith returns CurveEquality with a second curve as a function of the first one.
func equalityWith(t *testing.T, d impl.Curve) curveFunction {
	return func(c impl.Curve) (lists [][]int64, code int64) {
		checkCurveKept(t, "CurveEquality", d, func(d impl.Curve) { lists, code = listAsLists(impl.CurveEquality(c, d)) })
		return lists, code
	}
}

// copiedCurves returns copies of curves, in lists, and writes all over the curves, so that it is seen if one of them
// shares memory with an argument or with a further one.
func copiedCurves(curves []impl.Curve, code int64) ([][]int64, int64) {
	var lists [][]int64
	for _, c := range curves {
		copied, _ := copiedCurve(c, code)
		lists = append(lists, copied...)
	}
	clear(curves[:cap(curves)])
	return lists, code
}

// curvesAsLists puts curves into lists.
func curvesAsLists(curves []impl.Curve) [][]int64 {
	var lists [][]int64
	for _, c := range curves {
		list, _ := curveAsLists(c, 0)
		lists = append(lists, list...)
	}
	return lists
}

// textCurve returns the curve with a text, which has to be one.
func textCurve(t *testing.T, text string) impl.Curve {
	t.Helper()
	c := grammarCurve(text)
	if len(c.Branches) == 0 {
		t.Fatalf("%q is no text", text)
	}
	return c
}

// slowMeeting adds the products of the multiplicities of the first points of two branches.
func slowMeeting(p, q []int64, common int64) int64 {
	a, b := pointsOfTerms(p).multiplicities, pointsOfTerms(q).multiplicities
	var sum int64
	for n := range common {
		sum += a[n] * b[n]
	}
	return sum
}

// codeOfTerms returns the code of the first MaxCommon + 1 points of a branch.
func codeOfTerms(terms []int64) []int64 { return slowCode(pointsOfTerms(terms).proximates) }

// slowGreatest returns the number of the first point with different numbers in the codes of two branches, or 0.
func slowGreatest(p, q []int64) int64 {
	a, b := codeOfTerms(p), codeOfTerms(q)
	for n := range a {
		if a[n] != b[n] {
			return int64(n) + 1
		}
	}
	return 0
}

// partingAt tells how two branches part at the greatest number of points that they can share.
func partingAt(p, q []int64, greatest int64) string {
	switch {
	case greatest == 0:
		return "nowhere"
	case codeOfTerms(p)[greatest-1] == 0 || codeOfTerms(q)[greatest-1] == 0:
		return "at a free point and a satellite"
	}
	return "at two satellites"
}

// checkShared checks what two branches that share c points are told to do, and that the curve of both tells the same.
func checkShared(t *testing.T, p, q []int64, c int64) bool {
	t.Helper()
	ok, code := canShare(p, q, c), int64(impl.ErrState)
	var want [][]int64
	if ok {
		want, code = [][]int64{{slowMeeting(p, q, c)}}, impl.ErrNone
	}
	shared, _ := boolAsLists(ok, 0)
	checkTwo(t, "CanShare", sharing(c), p, q, shared, impl.ErrNone)
	checkTwo(t, "IntersectionWith", meetingWith(c), p, q, want, code)
	made := evenCurve(c, p, q)
	checkIsCurve(t, made, ok)
	if ok {
		checkCurve(t, "IntersectionNumber", meetingOf(0, 1), made, want, impl.ErrNone)
	}
	return ok
}

// checkPossible checks all intersection numbers of two branches that share up to so many points.
func checkPossible(t *testing.T, p, q []int64, most int64) {
	t.Helper()
	var want []int64
	for c := int64(1); c <= most; c++ {
		if canShare(p, q, c) {
			want = append(want, slowMeeting(p, q, c))
		}
	}
	checkTwo(t, "PossibleIntersections", possibleUpTo(most), p, q, [][]int64{want}, impl.ErrNone)
}

// checkGreatest checks the greatest number of points that two branches can share, and returns it, or 0.
func checkGreatest(t *testing.T, p, q []int64) int64 {
	t.Helper()
	greatest := slowGreatest(p, q)
	want, _ := numberAsLists(greatest, 0)
	code := int64(impl.ErrNone)
	if greatest == 0 {
		code = impl.ErrNotFound
	}
	checkTwo(t, "GreatestCommon", greatestOf, p, q, want, code)
	return greatest
}

// contactCase are two branches with the greatest number of points that they can share, 0 for none, all numbers up to 8
// that they can share, and the intersection numbers for these.
type contactCase struct {
	p, q           []int64
	greatest       int64
	shares, values []int64
}

func contactCases() []contactCase {
	cusp, smooth, two := []int64{2, 3}, []int64{1}, []int64{4, 6, 7}
	return []contactCase{
		{cusp, cusp, 0, []int64{1, 3, 4, 5, 6, 7, 8}, []int64{4, 6, 7, 8, 9, 10, 11}},
		{cusp, smooth, 2, []int64{1, 2}, []int64{2, 3}},
		{smooth, smooth, 0, []int64{1, 2, 3, 4, 5, 6, 7, 8}, []int64{1, 2, 3, 4, 5, 6, 7, 8}},
		{two, cusp, 4, []int64{1, 3, 4}, []int64{8, 12, 13}},
		{two, smooth, 2, []int64{1, 2}, []int64{4, 6}},
		{two, two, 0, []int64{1, 3, 5, 6, 7, 8}, []int64{16, 24, 26, 27, 28, 29}},
		{[]int64{4, 6, 9}, two, 4, []int64{1, 3, 4}, []int64{16, 24, 26}},
		{[]int64{4, 6, 9}, []int64{4, 6, 11}, 5, []int64{1, 3, 4, 5}, []int64{16, 24, 28, 30}},
		{[]int64{4, 6, 9}, cusp, 5, []int64{1, 3, 4, 5}, []int64{8, 12, 14, 15}},
		{[]int64{2, 5}, smooth, 3, []int64{1, 2, 3}, []int64{2, 4, 5}},
		{[]int64{2, 5}, cusp, 2, []int64{1, 2}, []int64{4, 6}},
		{[]int64{2, 5}, []int64{2, 5}, 0, []int64{1, 2, 4, 5, 6, 7, 8}, []int64{4, 8, 10, 11, 12, 13, 14}},
		{[]int64{2, 11}, []int64{2, 13}, 6, []int64{1, 2, 3, 4, 5, 6}, []int64{4, 8, 12, 16, 20, 22}},
		// Codes that part at a satellite and a free point: {0, 2, 3}, {0, 2, 2}, {0, 2, 0} and {0, 2, 3, 4}, {0, 2, 3, 0}.
		{[]int64{3, 4}, cusp, 3, []int64{1, 3}, []int64{6, 8}},
		{[]int64{3, 5}, cusp, 3, []int64{1, 3}, []int64{6, 9}},
		{[]int64{4, 5}, []int64{3, 4}, 4, []int64{1, 4}, []int64{12, 15}},
		// Codes that part at two satellites: {0, 2, 3}, {0, 2, 2} and {0, 2, 3, 4}, {0, 2, 3, 2}.
		{[]int64{3, 4}, []int64{3, 5}, 3, []int64{1, 3}, []int64{9, 12}},
		{[]int64{4, 5}, []int64{5, 7}, 4, []int64{1, 4}, []int64{20, 25}},
	}
}

// TestContactCases checks branches with known numbers.
func TestContactCases(t *testing.T) {
	for _, c := range contactCases() {
		if greatest := checkGreatest(t, c.p, c.q); greatest != c.greatest {
			t.Errorf("%v and %v share at most %d points; wanted %d", c.p, c.q, greatest, c.greatest)
		}
		for n := int64(1); n <= 8; n++ {
			place := slices.Index(c.shares, n)
			if checkShared(t, c.p, c.q, n) != (place >= 0) {
				t.Errorf("%v and %v can share %d points: %v", c.p, c.q, n, place < 0)
			}
			if place >= 0 {
				checkTwo(t, "IntersectionWith", meetingWith(n), c.p, c.q, [][]int64{{c.values[place]}}, impl.ErrNone)
				checkTwo(t, "PossibleIntersections", possibleUpTo(n), c.p, c.q, [][]int64{c.values[:place+1]}, impl.ErrNone)
			}
		}
		checkTwo(t, "PossibleIntersections", possibleUpTo(8), c.p, c.q, [][]int64{c.values}, impl.ErrNone)
	}
	checkTwo(t, "PossibleIntersections", possibleUpTo(5), []int64{2, 3}, []int64{1}, [][]int64{{2, 3}}, impl.ErrNone)
	checkTwo(t, "PossibleIntersections", possibleUpTo(5), []int64{2, 3}, []int64{2, 3}, [][]int64{{4, 6, 7, 8}}, impl.ErrNone)
}

// withOtherEnd returns a branch with the same truncation before its last pair, and another last term, or the same one.
func withOtherEnd(r *rand.Rand, terms []int64) []int64 {
	last := len(terms) - 1
	for range 100 {
		other := slices.Clone(terms)
		other[last] += r.Int63n(41) - 20
		if slowIsBranch(other) && len(other) > 1 {
			return other
		}
	}
	return terms
}

// contactPairs returns pairs of branches: all of small ones, some of wide ones, equal ones, and such that have a
// truncation or many points in common.
func contactPairs() [][2][]int64 {
	r := rand.New(rand.NewSource(104))
	var pairs [][2][]int64
	small := branchesWithin(6, 14)
	for n, p := range small {
		for _, q := range small[:n+1] {
			pairs = append(pairs, [2][]int64{p, q})
		}
	}
	wide := append(pointBranches(), []int64{2, 397}, []int64{2, 399}, []int64{2, 401}, []int64{2, 403}, []int64{3, 598}, []int64{3, 599}, []int64{3, 601}, []int64{4, 798, 801})
	for n := range 900 {
		p := wide[r.Intn(len(wide))]
		q := wide[r.Intn(len(wide))]
		switch n % 6 {
		case 0:
			q = p
		case 1:
			q = withOtherEnd(r, p)
		case 2:
			b, _ := impl.TruncateBranch(branch(p...), r.Int63n(int64(len(p))))
			q = b.Terms
		case 3, 4:
			c := randomCurve(r, 2, []int64{4, 9, 20, mostCommon}[n/6%4], 7)
			p, q = c.Branches[0].Terms, c.Branches[1].Terms
		}
		pairs = append(pairs, [2][]int64{p, q})
	}
	return pairs
}

// TestPairsOfBranches checks all functions of two branches against what follows from their sequences, and against the
// curves that they make.
func TestPairsOfBranches(t *testing.T) {
	r := rand.New(rand.NewSource(105))
	numbers := map[string]int{}
	shared := map[bool]int{}
	for _, two := range contactPairs() {
		p, q := two[0], two[1]
		greatest := checkGreatest(t, p, q)
		numbers[partingAt(p, q, greatest)]++
		if min(len(p), len(q)) > 2 {
			numbers["several pairs"]++
		}
		if min(len(p), len(q)) == 1 {
			numbers["smooth"]++
		}
		if slices.Equal(p, q) {
			numbers["equal"]++
		}
		list := []int64{1, 2, 3, 4, 5, 6, greatest - 1, greatest, greatest + 1, greatest + 2, 1 + r.Int63n(mostCommon), mostCommon - 1, mostCommon}
		slices.Sort(list)
		for _, c := range slices.Compact(list) {
			if c < 1 || c > mostCommon {
				continue
			}
			shared[checkShared(t, p, q, c)]++
			checkPossible(t, p, q, c)
		}
		if greatest > 0 && !canShare(p, q, greatest) {
			t.Errorf("%v and %v cannot share %d points", p, q, greatest)
		}
	}
	for name, least := range map[string]int{"nowhere": 150, "at a free point and a satellite": 1000, "at two satellites": 100, "several pairs": 200, "smooth": 30, "equal": 150} {
		if numbers[name] < least {
			t.Errorf("numbers are %v; wanted at least %d of %q", numbers, least, name)
		}
	}
	if shared[true] < 5000 || shared[false] < 5000 {
		t.Errorf("branches can share points: %v", shared)
	}
}

// numbersByExpansions returns, in ascending order, the intersection numbers of two branches by their expansions in
// powers of x with exponents of at least 1: these are the same up to an exponent k, as far as the first q terms of both
// characteristics are the same exponents, and part there. The number is then that of
// (e(0) - e(1)) b(1) + .. + (e(q - 1) - e(q)) b(q) and of e(q) n k, divided by n, times the other multiplicity. There
// are as many numbers as told, if not all parts of the characteristics are left before.
func numbersByExpansions(p, q []int64, count int) []int64 {
	n, m := p[0], q[0]
	divisors := slowDivisors(p)
	var numbers []int64
	var sum int64
	// Exponents are counted in parts of n m.
	k := n * m
	for i := 1; ; i++ {
		end := int64(math.MaxInt64)
		if i < len(p) {
			end = p[i] * m
		}
		if i < len(q) {
			end = min(end, q[i]*n)
		}
		e := divisors[i-1]
		// Terms with smaller exponents have multiples of e(q) / n as exponents.
		step := e * m
		for ; k < end && len(numbers) < count; k += step {
			numbers = append(numbers, (sum*m+e*k)/n)
		}
		if len(numbers) == count {
			return numbers
		}
		numbers = append(numbers, (sum*m+e*end)/n)
		if i >= len(p) || i >= len(q) || p[i]*m != q[i]*n {
			return numbers
		}
		sum += (e - divisors[i]) * p[i]
		k = end - end%(divisors[i]*m) + divisors[i]*m
	}
}

// TestIntersectionsByExpansions checks intersection numbers against those of expansions.
func TestIntersectionsByExpansions(t *testing.T) {
	whole, cut := 0, 0
	for _, two := range contactPairs() {
		p, q := two[0], two[1]
		if given := numbersByExpansions(p, q, mostCommon); !slices.Equal(given, numbersByExpansions(q, p, mostCommon)) {
			t.Fatalf("expansions of %v and %v give %v", p, q, given)
		}
		list, code := impl.PossibleIntersections(branch(p...), branch(q...), mostCommon)
		want := numbersByExpansions(p, q, mostCommon)
		if slowGreatest(p, q) > 0 {
			whole++
		} else {
			// Those behind MaxCommon points are left out.
			want = want[:min(len(list), len(want))]
			cut++
		}
		if !slices.Equal(list, want) || code != impl.ErrNone {
			t.Errorf("PossibleIntersections(%v, %v) = %v, %d; wanted %v", p, q, list, code, want)
		}
	}
	if whole < 1000 || cut < 150 {
		t.Errorf("%d lists are whole, %d are not", whole, cut)
	}
}

// outsideShared returns numbers that are not in 1..MaxCommon.
func outsideShared() []int64 {
	return []int64{0, -1, -2, -mostCommon, mostCommon + 1, mostCommon + 2, mostPoints, mostPoints + 1, 1 << 32, 1<<32 + 1, -1 << 32, -1<<32 + 1, math.MaxInt64, math.MaxInt64 - 1, math.MinInt64, math.MinInt64 + 1}
}

// TestSharedLimits checks numbers of common points of 0, 1, MaxCommon and beyond, also for branches that cannot share
// so many.
func TestSharedLimits(t *testing.T) {
	cusp, smooth := []int64{2, 3}, []int64{1}
	for _, two := range [][2][]int64{{cusp, cusp}, {cusp, smooth}, {smooth, smooth}, {{4, 6, 7}, cusp}, {longBranch, longBranch}, {{2, 1999}, smooth}, {{2, 1999}, {64, 65}}, {{2, 399}, {2, 401}}} {
		p, q := two[0], two[1]
		for _, c := range outsideShared() {
			checkTwo(t, "CanShare", sharing(c), p, q, nil, impl.ErrRange)
			checkTwo(t, "IntersectionWith", meetingWith(c), p, q, nil, impl.ErrRange)
			checkTwo(t, "PossibleIntersections", possibleUpTo(c), p, q, nil, impl.ErrRange)
		}
		// Any two branches can share one point.
		product := [][]int64{{p[0] * q[0]}}
		checkTwo(t, "CanShare", sharing(1), p, q, [][]int64{{1}}, impl.ErrNone)
		checkTwo(t, "IntersectionWith", meetingWith(1), p, q, product, impl.ErrNone)
		checkTwo(t, "PossibleIntersections", possibleUpTo(1), p, q, product, impl.ErrNone)
		checkShared(t, p, q, mostCommon)
		checkPossible(t, p, q, mostCommon)
	}
	var ramp []int64
	for n := int64(1); n <= mostCommon; n++ {
		ramp = append(ramp, n)
	}
	checkTwo(t, "PossibleIntersections", possibleUpTo(mostCommon), smooth, smooth, [][]int64{ramp}, impl.ErrNone)
	checkTwo(t, "IntersectionWith", meetingWith(mostCommon), smooth, smooth, [][]int64{{200}}, impl.ErrNone)
	checkTwo(t, "IntersectionWith", meetingWith(mostCommon), cusp, cusp, [][]int64{{203}}, impl.ErrNone)
	checkTwo(t, "IntersectionWith", meetingWith(mostCommon), cusp, smooth, nil, impl.ErrState)
}

// TestEqualCodes checks branches whose codes of MaxCommon + 1 points are equal, and such that part just there.
func TestEqualCodes(t *testing.T) {
	for _, terms := range append(pointBranches()[:400], longBranch, []int64{1}, []int64{2, 1999}, []int64{64, 65}, []int64{63, 2000}) {
		checkTwo(t, "GreatestCommon", greatestOf, terms, terms, nil, impl.ErrNotFound)
	}
	for _, c := range []struct {
		p, q     []int64
		greatest int64
	}{
		// The branch {2, 2 k - 1} has its satellite at the point k.
		{[]int64{1}, []int64{2, 3}, 2}, {[]int64{1}, []int64{2, 397}, 199}, {[]int64{1}, []int64{2, 399}, 200}, {[]int64{1}, []int64{2, 401}, 0}, {[]int64{1}, []int64{2, 403}, 0}, {[]int64{1}, []int64{2, 1999}, 0}, {[]int64{1}, []int64{1}, 0},
		{[]int64{2, 399}, []int64{2, 397}, 199}, {[]int64{2, 399}, []int64{2, 401}, 200}, {[]int64{2, 401}, []int64{2, 403}, 0}, {[]int64{2, 401}, []int64{2, 1999}, 0}, {[]int64{2, 399}, []int64{2, 1999}, 200}, {[]int64{3, 2000}, []int64{2, 1999}, 0}, {[]int64{3, 2000}, []int64{1}, 0},
		{[]int64{4, 6, 397}, []int64{2, 3}, 199}, {[]int64{4, 6, 399}, []int64{2, 3}, 200}, {[]int64{4, 6, 401}, []int64{2, 3}, 0}, {[]int64{4, 6, 401}, []int64{4, 6, 1999}, 0}, {[]int64{4, 6, 1999}, []int64{2, 3}, 0}, {[]int64{4, 6, 399}, []int64{4, 6, 1999}, 200},
		// The branches {3, 3 k - 1} and {3, 3 k - 2} have satellites at the points k and k + 1, with the numbers 2, 2 and 2, 3.
		{[]int64{3, 593}, []int64{3, 592}, 199}, {[]int64{3, 596}, []int64{3, 595}, 200}, {[]int64{3, 599}, []int64{3, 598}, 0}, {[]int64{3, 599}, []int64{3, 596}, 199}, {[]int64{3, 596}, []int64{1}, 199}, {[]int64{3, 599}, []int64{1}, 200}, {[]int64{3, 602}, []int64{1}, 0},
	} {
		if greatest := checkGreatest(t, c.p, c.q); greatest != c.greatest {
			t.Errorf("%v and %v share at most %d points; wanted %d", c.p, c.q, greatest, c.greatest)
		}
		for n := int64(196); n <= mostCommon; n++ {
			checkShared(t, c.p, c.q, n)
		}
	}
}

// TestSemiroots checks semiroots for each i, that they meet their branch in its generators if they share as many points
// with it as they can, and in no greater number.
func TestSemiroots(t *testing.T) {
	met, pairs := 0, map[int]int{}
	for _, terms := range slices.Concat(branchesWithin(12, 24), wideBranches()[:400], edgeBranches(), [][]int64{{1}, {4, 6, 7}, {12, 18, 20, 21}, {24, 36, 40, 42, 43}, longBranch}) {
		divisors, generators := slowDivisors(terms), slowGenerators(terms)
		for i := 1; i < len(terms); i++ {
			var want []int64
			for _, n := range terms[:i] {
				want = append(want, n/divisors[i-1])
			}
			checkOne(t, "SemirootOf", semirootFor(int64(i)), terms, [][]int64{want}, impl.ErrNone)
			greatest := checkGreatest(t, terms, want)
			if greatest == 0 {
				continue
			}
			checkTwo(t, "IntersectionWith", meetingWith(greatest), terms, want, [][]int64{{generators[i]}}, impl.ErrNone)
			list, code := impl.PossibleIntersections(branch(terms...), branch(want...), mostCommon)
			if len(list) == 0 || list[len(list)-1] != generators[i] || code != impl.ErrNone {
				t.Errorf("%v and its semiroot %v meet in %v, %d; wanted %d as the last number", terms, want, list, code, generators[i])
			}
			met++
			pairs[len(terms)-1]++
		}
		for _, i := range []int64{0, -1, -2, int64(len(terms)), int64(len(terms)) + 1, 7, 8, 100, 1 << 32, 1<<32 + 1, -1<<32 + 1, math.MaxInt64, math.MinInt64, math.MinInt64 + 1} {
			checkOne(t, "SemirootOf", semirootFor(i), terms, nil, impl.ErrRange)
		}
	}
	if met < 700 || pairs[1] < 100 || pairs[2] < 200 || pairs[3] < 50 || pairs[6] < 6 {
		t.Errorf("%d numbers are checked, %v", met, pairs)
	}
}

// TestDistances checks the first part of promise 10: of the distances of three branches the two least ones are equal.
func TestDistances(t *testing.T) {
	three, different := 0, 0
	for n, c := range append(smallCurves(), someCurves()...) {
		facts := slowCurveFacts(c)
		distances := make([][]impl.Fraction, len(c.Branches))
		for i, p := range c.Branches {
			distances[i] = make([]impl.Fraction, len(c.Branches))
			for k, q := range c.Branches {
				if i == k {
					checkCurve(t, "DistanceOf", distanceOf(int64(i), int64(i)), c, nil, impl.ErrRange)
					continue
				}
				want := lowest(facts.numbers[i][k], p.Terms[0]*q.Terms[0])
				if n%5 == 0 || len(c.Branches) > 2 {
					checkCurve(t, "DistanceOf", distanceOf(int64(i), int64(k)), c, [][]int64{{want.Top, want.Bottom}}, impl.ErrNone)
				}
				distances[i][k], _ = impl.DistanceOf(c, int64(i), int64(k))
			}
		}
		for i := range distances {
			for k := range i {
				for j := range k {
					list := []impl.Fraction{distances[i][k], distances[i][j], distances[k][j]}
					slices.SortFunc(list, func(f, g impl.Fraction) int { order, _ := impl.CompareFractions(f, g); return int(order) })
					if list[0] != list[1] || list[0].Bottom == 0 {
						t.Errorf("three branches of %v have the distances %v", c, list)
					}
					three++
					if list[1] != list[2] {
						different++
					}
				}
			}
		}
	}
	if three < 5000 || different < 2000 {
		t.Errorf("there are only %d times three branches, %d with different distances", three, different)
	}
	c := textCurve(t, "(2;3) (1) (1)|1 2 1")
	for _, given := range []struct {
		i, k int64
		want []int64
	}{{0, 1, []int64{1, 1}}, {0, 2, []int64{3, 2}}, {1, 2, []int64{1, 1}}, {2, 0, []int64{3, 2}}} {
		checkCurve(t, "DistanceOf", distanceOf(given.i, given.k), c, [][]int64{given.want}, impl.ErrNone)
	}
	checkCurve(t, "DistanceOf", distanceOf(0, 1), evenCurve(mostCommon, []int64{64, 65}, []int64{64, 65}), [][]int64{{4295, 4096}}, impl.ErrNone)
	checkCurve(t, "DistanceOf", distanceOf(1, 0), evenCurve(mostCommon, []int64{1}, []int64{1}), [][]int64{{200, 1}}, impl.ErrNone)
}

// TestBranchesThatDoNotExist checks numbers of branches of -1, of r and equal ones, also beyond all that could exist.
func TestBranchesThatDoNotExist(t *testing.T) {
	for _, text := range []string{"(1)", "(2;3)", "(1) (1)|1", "(2;3) (1)|2", "(2;3) (1) (1)|1 2 1", "(2;3) (2;3) (2;3) (2;3) (2;3) (2;3)|3 3 3 3 3 3 3 3 3 3 3 3 3 3 3"} {
		c := textCurve(t, text)
		count := int64(len(c.Branches))
		outside := []int64{-1, -2, -count, count, count + 1, mostBranches, 1 << 32, 1<<32 + 1, -1 << 32, -1<<32 + 1, math.MaxInt64, math.MaxInt64 - 1, math.MinInt64, math.MinInt64 + 1}
		for _, i := range outside {
			checkCurve(t, "TotalIntersection", totalOf(i), c, nil, impl.ErrRange)
			for k := range count {
				checkCurve(t, "DistanceOf", distanceOf(i, k), c, nil, impl.ErrRange)
				checkCurve(t, "DistanceOf", distanceOf(k, i), c, nil, impl.ErrRange)
			}
			for _, k := range outside {
				checkCurve(t, "DistanceOf", distanceOf(i, k), c, nil, impl.ErrRange)
			}
		}
		for i := range count {
			checkCurve(t, "DistanceOf", distanceOf(i, i), c, nil, impl.ErrRange)
		}
	}
}

// slowTangents returns for each branch the number of its tangent, by the branches that have at least two points in
// common with the least branch of each tangent.
func slowTangents(c impl.Curve) []int64 {
	tangents := repeated(-1, len(c.Branches))
	var next int64
	for i := range tangents {
		if tangents[i] >= 0 {
			continue
		}
		for k, common := range c.Common[i] {
			if k == i || common >= 2 {
				tangents[k] = next
			}
		}
		next++
	}
	return tangents
}

// TestTangents checks tangents against numbers of common points, and that their numbers come in order.
func TestTangents(t *testing.T) {
	numbers := map[string]int{}
	for _, c := range append(smallCurves(), someCurves()...) {
		want := slowTangents(c)
		checkCurve(t, "TangentsOf", contactFunctions()["TangentsOf"], c, [][]int64{want}, impl.ErrNone)
		tangents, _ := impl.TangentsOf(c)
		next := int64(0)
		for i, tangent := range tangents {
			if tangent > next {
				t.Errorf("tangents of %v are %v", c, tangents)
			}
			next = max(next, tangent+1)
			for k := range i {
				if (tangents[k] == tangent) != (c.Common[i][k] > 1) {
					t.Errorf("tangents of %v are %v", c, tangents)
				}
			}
		}
		switch {
		case len(c.Branches) == 1:
			numbers["one branch"]++
		case next == 1:
			numbers["one tangent"]++
		case next == int64(len(c.Branches)):
			numbers["all different"]++
		default:
			numbers["some equal"]++
		}
		if !slices.IsSorted(tangents) {
			numbers["mixed"]++
		}
	}
	for name, least := range map[string]int{"one branch": 250, "one tangent": 500, "all different": 200, "some equal": 400, "mixed": 200} {
		if numbers[name] < least {
			t.Errorf("numbers are %v; wanted at least %d of %q", numbers, least, name)
		}
	}
	for _, c := range []struct {
		text string
		want []int64
	}{
		{"(1)", []int64{0}}, {"(4;6,7)", []int64{0}}, {"(1) (1)|1", []int64{0, 1}}, {"(1) (1)|2", []int64{0, 0}}, {"(1) (1)|200", []int64{0, 0}}, {"(2;3) (1) (1)|1 2 1", []int64{0, 1, 0}}, {"(1) (1) (1) (1)|1 1 1 1 2 1", []int64{0, 1, 2, 1}}, {"(1) (1) (1) (1)|1 1 2 2 1 1", []int64{0, 1, 1, 0}},
		{"(1) (1) (1) (1) (1) (1)|1 1 1 1 1 1 1 1 1 1 1 1 1 1 1", []int64{0, 1, 2, 3, 4, 5}}, {"(1) (1) (1) (1) (1) (1)|2 2 2 2 2 2 2 2 2 2 2 2 2 2 2", repeated(0, 6)}, {"(1) (1) (1) (1) (1) (1)|1 1 1 1 9 1 1 9 1 9 1 1 1 1 1", []int64{0, 1, 2, 2, 1, 0}},
	} {
		checkCurve(t, "TangentsOf", contactFunctions()["TangentsOf"], textCurve(t, c.text), [][]int64{c.want}, impl.ErrNone)
	}
}

// slowBlownUp returns the curves that blowing up makes, in lists, by the exponents of the branches, or ErrLimit.
func slowBlownUp(c impl.Curve) ([][]int64, int64) {
	tangents := slowTangents(c)
	var curves []impl.Curve
	for n := range slices.Max(tangents) + 1 {
		var list []int64
		for i, tangent := range tangents {
			if tangent == n {
				list = append(list, int64(i))
			}
		}
		d := slowPart(c, list)
		for i, b := range d.Branches {
			if len(pointsOfTerms(b.Terms).sequence) >= mostPoints {
				return nil, impl.ErrLimit
			}
			d.Branches[i] = branch(slices.Clone(slowBlowUp(b.Terms))...)
			for k := range d.Common[i] {
				if k != i {
					d.Common[i][k]--
				}
			}
		}
		curves = append(curves, d)
	}
	return curvesAsLists(curves), impl.ErrNone
}

// TestBlowUpCurve checks the curves that blowing up makes, and the second part of promise 10: it takes m (m - 1) / 2 away
// from the delta invariant.
func TestBlowUpCurve(t *testing.T) {
	numbers := map[string]int{}
	for _, c := range append(smallCurves(), someCurves()...) {
		want, code := slowBlownUp(c)
		checkCurve(t, "BlowUpCurve", contactFunctions()["BlowUpCurve"], c, want, code)
		facts := slowCurveFacts(c)
		drop, _ := numberAsLists(facts.multiplicity*(facts.multiplicity-1)/2, 0)
		if code != impl.ErrNone {
			drop = nil
			numbers["no strict transform"]++
		}
		checkCurve(t, "MultiplicityDrop", contactFunctions()["MultiplicityDrop"], c, drop, code)
		if code != impl.ErrNone {
			continue
		}
		curves, _ := impl.BlowUpCurve(c)
		if len(curves) > 1 {
			numbers["several curves"]++
		}
		rest := facts.delta
		for _, d := range curves {
			checkIsCurve(t, d, true)
			if slices.ContainsFunc(d.Branches, func(b impl.Branch) bool { return len(b.Terms) == 1 }) {
				numbers["smooth"]++
			}
			delta, _ := impl.CurveDelta(d)
			rest -= delta
		}
		if rest != facts.multiplicity*(facts.multiplicity-1)/2 {
			t.Errorf("blowing up %v, with the delta invariant %d, makes %v, with %d less", c, facts.delta, curves, rest)
		}
	}
	for name, least := range map[string]int{"no strict transform": 20, "several curves": 800, "smooth": 1500} {
		if numbers[name] < least {
			t.Errorf("numbers are %v; wanted at least %d of %q", numbers, least, name)
		}
	}
}

// TestBlowUpCases checks curves that are known.
func TestBlowUpCases(t *testing.T) {
	for _, c := range []struct {
		text string
		want []string
		drop int64
	}{
		{"(1)", []string{"(1)"}, 0}, {"(2;3)", []string{"(1)"}, 1}, {"(4;6,7)", []string{"(2;5)"}, 6}, {"(64;65)", []string{"(1)"}, 2016}, {"(3;5)", []string{"(2;3)"}, 3}, {"(2;795)", []string{"(2;793)"}, 1},
		{"(1) (1)|1", []string{"(1)", "(1)"}, 1}, {"(1) (1)|2", []string{"(1) (1)|1"}, 1}, {"(1) (1)|200", []string{"(1) (1)|199"}, 1},
		{"(2;3) (1) (1)|1 2 1", []string{"(1) (1)|1", "(1)"}, 6}, {"(1) (2;3) (1)|1 1 2", []string{"(1)", "(1) (1)|1"}, 6}, {"(2;3) (2;3)|3", []string{"(1) (1)|2"}, 6}, {"(2;3) (2;3)|1", []string{"(1)", "(1)"}, 6},
		{"(2;3) (2;5) (1) (3;4)|1 2 1 1 2 1", []string{"(1) (1)|1", "(2;3) (1)|1"}, 28}, {"(4;6,7) (2;3) (1)|4 2 2", []string{"(2;5) (1) (1)|3 1 1"}, 21}, {"(3;4) (3;5)|3", []string{"(1) (2;3)|2"}, 15},
		{"(1) (1) (1) (1) (1) (1)|1 1 1 1 1 1 1 1 1 1 1 1 1 1 1", []string{"(1)", "(1)", "(1)", "(1)", "(1)", "(1)"}, 15}, {"(1) (1) (1) (1) (1) (1)|2 2 2 2 2 2 2 2 2 2 2 2 2 2 2", []string{"(1) (1) (1) (1) (1) (1)|1 1 1 1 1 1 1 1 1 1 1 1 1 1 1"}, 15},
	} {
		var curves []impl.Curve
		for _, text := range c.want {
			curves = append(curves, textCurve(t, text))
		}
		drop, _ := numberAsLists(c.drop, 0)
		checkCurve(t, "BlowUpCurve", contactFunctions()["BlowUpCurve"], textCurve(t, c.text), curvesAsLists(curves), impl.ErrNone)
		checkCurve(t, "MultiplicityDrop", contactFunctions()["MultiplicityDrop"], textCurve(t, c.text), drop, impl.ErrNone)
	}
}

// TestStrictTransformLimits checks branches whose sequences have MaxPoints - 1 numbers, or more, alone and with others in
// front of them and behind them, with the same tangent and with another one.
func TestStrictTransformLimits(t *testing.T) {
	check := func(c impl.Curve, ok bool) {
		t.Helper()
		if !slowIsCurve(c) {
			t.Fatalf("%v is no curve", c)
		}
		want, code := slowBlownUp(c)
		if (code == impl.ErrNone) != ok {
			t.Errorf("blowing up %v makes %v, %d", c, want, code)
		}
		checkCurve(t, "BlowUpCurve", contactFunctions()["BlowUpCurve"], c, want, code)
		facts := slowCurveFacts(c)
		drop := [][]int64{{facts.multiplicity * (facts.multiplicity - 1) / 2}}
		if !ok {
			drop = nil
		}
		checkCurve(t, "MultiplicityDrop", contactFunctions()["MultiplicityDrop"], c, drop, code)
		// Other functions have no such limit.
		checkCurve(t, "PolarNumber", contactFunctions()["PolarNumber"], c, [][]int64{{facts.milnor + facts.multiplicity - 1}}, impl.ErrNone)
		checkCurve(t, "TangentsOf", contactFunctions()["TangentsOf"], c, [][]int64{slowTangents(c)}, impl.ErrNone)
	}
	results := map[bool]int{}
	for _, terms := range edgeBranches() {
		ok := len(pointsOfTerms(terms).sequence) < mostPoints
		results[ok]++
		check(evenCurve(0, terms), ok)
		for _, common := range []int64{1, 2, mostCommon} {
			if canShare(terms, terms, common) {
				check(evenCurve(common, terms, terms), ok)
			}
			if canShare(terms, []int64{1}, common) {
				check(evenCurve(common, terms, []int64{1}), ok)
				check(evenCurve(common, []int64{1}, terms), ok)
				check(evenCurve(common, []int64{1}, terms, []int64{1}), ok)
			}
		}
		for place := range mostBranches {
			list := slices.Repeat([][]int64{{2, 3}}, mostBranches)
			list[place] = terms
			check(evenCurve(1, list...), ok)
		}
	}
	if results[true] < 3 || results[false] < 10 {
		t.Errorf("strict transforms exist: %v", results)
	}
	check(evenCurve(1, []int64{2, 795}, []int64{2, 795}), true)
	check(evenCurve(1, []int64{2, 797}, []int64{2, 795}), false)
	check(evenCurve(1, []int64{2, 795}, []int64{2, 797}), false)
	check(evenCurve(2, []int64{2, 1999}, []int64{2, 1999}), false)
}

// TestBlownUpAgainAndAgain checks that blowing up leads down to nothing but smooth branches that part, one for each
// branch, and that all m (m - 1) / 2 on the way make the delta invariant.
func TestBlownUpAgainAndAgain(t *testing.T) {
	curves, longest := 0, 0
	for n, c := range append(smallCurves(), someCurves()...) {
		if n%4 != 0 && len(c.Branches) < 4 {
			continue
		}
		if _, code := slowBlownUp(c); code != impl.ErrNone {
			continue
		}
		facts := slowCurveFacts(c)
		var sum int64
		parted, steps := 0, 0
		for queue := []impl.Curve{c}; len(queue) > 0; queue = queue[1:] {
			d := queue[0]
			multiplicity, _ := impl.CurveMultiplicity(d)
			if multiplicity == 1 {
				parted++
				continue
			}
			next, code := impl.BlowUpCurve(d)
			if code != impl.ErrNone || len(next) == 0 {
				t.Fatalf("BlowUpCurve(%v) = %v, %d", d, next, code)
			}
			queue = append(queue, next...)
			sum += multiplicity * (multiplicity - 1) / 2
			steps++
		}
		if sum != facts.delta || parted != len(c.Branches) {
			t.Errorf("%v is blown up to %d smooth branches, with the sum %d; wanted %d", c, parted, sum, facts.delta)
		}
		curves++
		longest = max(longest, steps)
	}
	if curves < 1000 || longest < 200 {
		t.Errorf("only %d curves are blown up, with up to %d steps", curves, longest)
	}
}

// TestMeetingsAfterBlowingUp checks that blowing up takes the products of multiplicities away from intersection numbers.
func TestMeetingsAfterBlowingUp(t *testing.T) {
	count := 0
	for _, c := range someCurves() {
		curves, code := impl.BlowUpCurve(c)
		if code != impl.ErrNone {
			continue
		}
		tangents := slowTangents(c)
		for n, d := range curves {
			var list []int64
			for i, tangent := range tangents {
				if tangent == int64(n) {
					list = append(list, int64(i))
				}
			}
			for i := range list {
				for k := range i {
					before, _ := impl.IntersectionNumber(c, list[i], list[k])
					behind, code := impl.IntersectionNumber(d, int64(i), int64(k))
					if product := c.Branches[list[i]].Terms[0] * c.Branches[list[k]].Terms[0]; before != behind+product || code != impl.ErrNone {
						t.Errorf("branches of %v meet %d times, blown up they meet %d times; wanted %d less", c, before, behind, product)
					}
					count++
				}
			}
		}
	}
	if count < 2000 {
		t.Errorf("only %d numbers are checked", count)
	}
}

// polarOf is PolarInvariants as a function of a branch.
func polarOf(b impl.Branch) ([][]int64, int64) { return impl.PolarInvariants(b) }

// TestPolarInvariants checks polar invariants, that they add up to the multiplicity less 1 and to the polar number, which
// is the Milnor number plus this, and that they have the generators as ratios, divided by the multiplicities before.
func TestPolarInvariants(t *testing.T) {
	for _, c := range []struct {
		terms []int64
		want  [][]int64
	}{
		{[]int64{1}, nil}, {[]int64{2, 3}, [][]int64{{1, 3}}}, {[]int64{4, 6, 7}, [][]int64{{1, 6}, {2, 13}}}, {[]int64{3, 5}, [][]int64{{2, 10}}}, {[]int64{4, 5}, [][]int64{{3, 15}}}, {[]int64{64, 65}, [][]int64{{63, 63 * 65}}}, {[]int64{2, 1999}, [][]int64{{1, 1999}}},
		{[]int64{6, 9, 10}, [][]int64{{1, 9}, {4, 38}}}, {[]int64{6, 8, 9}, [][]int64{{2, 16}, {3, 25}}}, {[]int64{12, 18, 20, 21}, [][]int64{{1, 18}, {4, 76}, {6, 115}}}, {[]int64{8, 12, 14, 15}, [][]int64{{1, 12}, {2, 26}, {4, 53}}},
	} {
		checkOne(t, "PolarInvariants", polarOf, c.terms, c.want, impl.ErrNone)
	}
	pairs := map[int]int{}
	for _, terms := range sequenceBranches() {
		b := branch(terms...)
		divisors, generators := slowDivisors(terms), generatorsByMeeting(terms)
		var want [][]int64
		for i := 1; i < len(terms); i++ {
			want = append(want, []int64{terms[0]/divisors[i] - terms[0]/divisors[i-1], (divisors[i-1]/divisors[i] - 1) * generators[i]})
		}
		checkOne(t, "PolarInvariants", polarOf, terms, want, impl.ErrNone)
		list, code := impl.PolarInvariants(b)
		var multiplicities, numbers, before int64 = 0, 0, 1
		for i, two := range list {
			multiplicities, numbers = multiplicities+two[0], numbers+two[1]
			if two[1]*before != two[0]*generators[i+1] {
				t.Errorf("PolarInvariants(%v) = %v; wanted multiples of the generators %v", b, list, generators)
			}
			before += two[0]
		}
		multiplicity, _ := impl.MultiplicityOf(b)
		milnor, _ := impl.MilnorOfBranch(b)
		polar, polarCode := impl.PolarNumber(evenCurve(0, terms))
		if multiplicities != multiplicity-1 || numbers != milnor+multiplicity-1 || polar != numbers || code != impl.ErrNone || polarCode != impl.ErrNone {
			t.Errorf("PolarInvariants(%v) = %v, %d, with the sums %d and %d; wanted %d and %d, and the polar number %d, %d", b, list, code, multiplicities, numbers, multiplicity-1, milnor+multiplicity-1, polar, polarCode)
		}
		pairs[len(list)]++
	}
	if pairs[0] < 1 || pairs[1] < 500 || pairs[2] < 500 || pairs[3] < 100 || pairs[6] < 2 {
		t.Errorf("numbers of pairs are %v", pairs)
	}
}

// TestPolarNumbers checks polar numbers of curves.
func TestPolarNumbers(t *testing.T) {
	for _, c := range append(smallCurves(), someCurves()...) {
		facts := slowCurveFacts(c)
		want, _ := numberAsLists(facts.milnor+facts.multiplicity-1, 0)
		checkCurve(t, "PolarNumber", contactFunctions()["PolarNumber"], c, want, impl.ErrNone)
	}
	for _, c := range []struct {
		text string
		want int64
	}{
		{"(1)", 0}, {"(2;3)", 3}, {"(1) (1)|1", 2}, {"(1) (1)|2", 4}, {"(2;3) (1) (1)|1 2 1", 15}, {"(2;3) (1)|2", 9}, {"(4;6,7)", 19}, {"(1) (1) (1)|1 1 1", 6}, {"(64;65) (64;65)|200", 16653 + 127},
	} {
		want, _ := numberAsLists(c.want, 0)
		checkCurve(t, "PolarNumber", contactFunctions()["PolarNumber"], textCurve(t, c.text), want, impl.ErrNone)
	}
}

// knownPermutations keeps the permutations of some numbers, because the same ones are asked for again and again.
var knownPermutations = map[int][][]int64{}

// permutationsOf returns all permutations of 0..count - 1.
func permutationsOf(count int) [][]int64 {
	if knownPermutations[count] == nil {
		allPermutations(count, func(p []int64) { knownPermutations[count] = append(knownPermutations[count], p) })
	}
	return knownPermutations[count]
}

// listOfCurve returns the list by which curves are compared.
func listOfCurve(c impl.Curve) []int64 {
	var list []int64
	for _, b := range c.Branches {
		list = append(append(list, int64(len(b.Terms))), b.Terms...)
	}
	return slices.Concat(list, slices.Concat(c.Common...))
}

// slowEquality returns the least of all permutations by which renumbering c makes d, or nil.
func slowEquality(c, d impl.Curve) []int64 {
	var least []int64
	if len(c.Branches) != len(d.Branches) {
		return nil
	}
	for _, p := range permutationsOf(len(c.Branches)) {
		if same := slowRenumbered(c, p); !sameLists(termsOf(same), termsOf(d)) || !sameLists(same.Common, d.Common) {
			continue
		}
		if least == nil || slices.Compare(p, least) < 0 {
			least = p
		}
	}
	return least
}

// slowLeast returns the curve with the least list of all that renumbering makes of c.
func slowLeast(c impl.Curve) impl.Curve {
	least := c
	for _, p := range permutationsOf(len(c.Branches)) {
		if d := slowRenumbered(c, p); slices.Compare(listOfCurve(d), listOfCurve(least)) < 0 {
			least = d
		}
	}
	return least
}

// checkEquality checks the permutation by which renumbering c makes d, or that there is none, and returns it.
func checkEquality(t *testing.T, c, d impl.Curve) []int64 {
	t.Helper()
	want, code := slowEquality(c, d), int64(impl.ErrNone)
	if want == nil {
		code = impl.ErrNotFound
	}
	lists, _ := listAsLists(slices.Clone(want), 0)
	checkCurve(t, "CurveEquality", equalityWith(t, d), c, lists, code)
	return want
}

// equalityCurves returns curves with few branches, and some with MaxBranches.
func equalityCurves() []impl.Curve {
	r := rand.New(rand.NewSource(106))
	var curves []impl.Curve
	for n := range 120 {
		curves = append(curves, randomCurve(r, 1+n%4, []int64{1, 2, 4, 13}[n/4%4], n%11))
		if n%40 == 0 {
			curves = append(curves, randomCurve(r, 5+n/40%2, 4, 5))
		}
	}
	return append(curves, evenCurve(1, slices.Repeat([][]int64{{1}}, mostBranches)...), evenCurve(3, []int64{2, 3}, []int64{2, 3}, []int64{2, 3}, []int64{2, 3}), withBoth(evenCurve(2, []int64{1}, []int64{2, 3}, []int64{1}, []int64{2, 3}), 1, 3, 3))
}

// TestEqualInKind checks that every renumbering of a curve is equal in kind with it, by the lexicographically first
// permutation, and that all of them have one least curve, which is its own one.
func TestEqualInKind(t *testing.T) {
	numbers := map[string]int{}
	for _, c := range equalityCurves() {
		least, _ := curveAsLists(slowLeast(c), 0)
		checkCurve(t, "LeastCurve", contactFunctions()["LeastCurve"], slowLeast(c), least, impl.ErrNone)
		for n, p := range permutationsOf(len(c.Branches)) {
			if len(c.Branches) > 4 && n%97 != 0 {
				continue
			}
			d := slowRenumbered(c, p)
			first := checkEquality(t, c, d)
			checkCurve(t, "LeastCurve", contactFunctions()["LeastCurve"], d, least, impl.ErrNone)
			checkEquality(t, d, slowLeast(c))
			numbers["renumbered"]++
			if !slices.Equal(first, p) {
				numbers["by an earlier permutation"]++
			}
			if !slices.IsSorted(first) {
				numbers["not in place"]++
			}
		}
	}
	if numbers["renumbered"] < 900 || numbers["by an earlier permutation"] < 100 || numbers["not in place"] < 500 {
		t.Errorf("numbers are %v", numbers)
	}
}

// TestOtherKinds checks curves with the same branches and other numbers of common points, with some other branch, and
// with other numbers of branches.
func TestOtherKinds(t *testing.T) {
	numbers := map[bool]int{}
	curves := smallCurves()
	curves = append(curves[len(curves)-250:], equalityCurves()...)
	for n, c := range curves {
		for k, d := range curves {
			if (n+k)%7 == 0 || n == k {
				numbers[checkEquality(t, c, d) != nil]++
			}
		}
	}
	if numbers[true] < 450 || numbers[false] < 10000 {
		t.Errorf("curves are equal in kind: %v", numbers)
	}
	for _, c := range equalityCurves() {
		for i := range c.Branches {
			var list []int64
			for k := range c.Branches {
				if k != i {
					list = append(list, int64(k))
				}
				if d := withBoth(c, i, k, c.Common[i][k]+1); k != i && slowIsCurve(d) {
					checkEquality(t, c, d)
					checkEquality(t, d, c)
				}
			}
			if len(list) > 0 {
				checkEquality(t, c, slowPart(c, list))
				checkEquality(t, slowPart(c, list), c)
			}
			if other := copyCurve(c); len(c.Branches[i].Terms) > 1 {
				last := len(c.Branches[i].Terms) - 1
				other.Branches[i].Terms[last] += 2
				if slowIsCurve(other) {
					checkEquality(t, c, other)
				}
			}
		}
	}
}

// TestEqualityCases checks curves with known permutations, and such that are not equal in kind.
func TestEqualityCases(t *testing.T) {
	for _, c := range []struct {
		c, d string
		want []int64
	}{
		{"(1)", "(1)", []int64{0}}, {"(4;6,7)", "(4;6,7)", []int64{0}}, {"(1)", "(2;3)", nil}, {"(2;3)", "(2;5)", nil}, {"(2;3)", "(4;6,7)", nil}, {"(1) (1)|1", "(1) (1)|1", []int64{0, 1}}, {"(1) (1)|1", "(1) (1)|2", nil}, {"(2;3) (1)|2", "(1) (2;3)|2", []int64{1, 0}}, {"(2;3) (1)|2", "(1) (2;3)|1", nil}, {"(2;3) (1)|2", "(2;3) (1)|1", nil},
		{"(2;3) (1) (1)|1 2 1", "(1) (1) (2;3)|1 1 2", []int64{2, 0, 1}}, {"(2;3) (1) (1)|1 2 1", "(1) (1) (2;3)|1 2 1", []int64{2, 1, 0}}, {"(2;3) (1) (1)|1 2 1", "(2;3) (1) (1)|1 1 2", nil}, {"(2;3) (1) (1)|1 2 1", "(1)", nil}, {"(1)", "(2;3) (1) (1)|1 2 1", nil}, {"(1) (1)|1", "(1) (1) (1)|1 1 1", nil}, {"(1) (1) (1)|1 1 1", "(1) (1)|1", nil},
		// Equal branches in different places.
		{"(1) (1) (1)|1 1 2", "(1) (1) (1)|1 1 2", []int64{0, 1, 2}}, {"(1) (1) (1)|1 1 2", "(1) (1) (1)|2 1 1", []int64{2, 0, 1}}, {"(1) (1) (1)|1 1 2", "(1) (1) (1)|1 2 1", []int64{1, 0, 2}}, {"(1) (1) (1)|2 1 1", "(1) (1) (1)|1 1 2", []int64{1, 2, 0}}, {"(1) (2;3) (1)|1 2 1", "(1) (1) (2;3)|2 1 1", []int64{0, 2, 1}}, {"(1) (1) (1)|2 2 2", "(1) (1) (1)|2 2 2", []int64{0, 1, 2}},
		{"(1) (1) (1) (1)|2 1 1 1 1 2", "(1) (1) (1) (1)|1 2 1 1 2 1", []int64{0, 2, 1, 3}}, {"(1) (1) (1) (1)|2 1 1 1 1 2", "(1) (1) (1) (1)|1 1 2 2 1 1", []int64{0, 3, 1, 2}}, {"(1) (1) (1) (1)|2 1 1 1 1 3", "(1) (1) (1) (1)|2 1 1 1 1 3", []int64{0, 1, 2, 3}}, {"(1) (1) (1) (1)|3 1 1 1 1 2", "(1) (1) (1) (1)|2 1 1 1 1 3", []int64{2, 3, 0, 1}}, {"(1) (1) (1) (1)|2 1 1 1 1 2", "(1) (1) (1) (1)|2 1 1 1 1 3", nil},
		{"(1) (1) (1) (1) (1) (1)|1 1 1 1 1 1 1 1 1 1 1 1 1 1 1", "(1) (1) (1) (1) (1) (1)|1 1 1 1 1 1 1 1 1 1 1 1 1 1 1", []int64{0, 1, 2, 3, 4, 5}}, {"(2;3) (1) (1) (1) (1) (1)|1 1 1 1 1 1 1 1 1 1 1 1 1 1 1", "(1) (1) (1) (1) (1) (2;3)|1 1 1 1 1 1 1 1 1 1 1 1 1 1 1", []int64{5, 0, 1, 2, 3, 4}},
		{"(2;3) (2;5) (2;7) (2;9) (2;11) (2;13)|1 1 1 1 1 1 1 1 1 1 1 1 1 1 1", "(2;13) (2;11) (2;9) (2;7) (2;5) (2;3)|1 1 1 1 1 1 1 1 1 1 1 1 1 1 1", []int64{5, 4, 3, 2, 1, 0}}, {"(2;3) (2;3)|3", "(2;3) (2;3)|4", nil}, {"(2;3) (3;4)|1", "(3;4) (2;3)|1", []int64{1, 0}}, {"(2;3) (3;4)|1", "(3;4) (2;3)|3", nil},
	} {
		if p := checkEquality(t, textCurve(t, c.c), textCurve(t, c.d)); !slices.Equal(p, c.want) {
			t.Errorf("renumbering %q by %v makes %q; wanted %v", c.c, p, c.d, c.want)
		}
	}
	for _, c := range []struct{ text, want string }{
		{"(1)", "(1)"}, {"(4;6,7)", "(4;6,7)"}, {"(2;3) (1)|2", "(1) (2;3)|2"}, {"(1) (2;3)|2", "(1) (2;3)|2"}, {"(2;3) (1) (1)|1 2 1", "(1) (1) (2;3)|1 1 2"}, {"(2;3) (1) (1)|2 1 1", "(1) (1) (2;3)|1 1 2"}, {"(1) (1) (1)|2 1 1", "(1) (1) (1)|1 1 2"}, {"(1) (1) (1)|1 2 1", "(1) (1) (1)|1 1 2"}, {"(1) (1) (1) (1)|2 1 1 1 1 2", "(1) (1) (1) (1)|1 1 2 2 1 1"},
		// Few Terms come first, then small ones.
		{"(4;6,7) (64;65)|1", "(64;65) (4;6,7)|1"}, {"(3;4) (2;1999)|1", "(2;1999) (3;4)|1"}, {"(2;5) (2;3)|1", "(2;3) (2;5)|1"}, {"(12;18,20,21) (4;6,7) (2;1999) (1)|1 1 1 1 1 1", "(1) (2;1999) (4;6,7) (12;18,20,21)|1 1 1 1 1 1"}, {"(4;6,9) (4;6,7)|3", "(4;6,7) (4;6,9)|3"}, {"(1) (1) (1)|10 9 9", "(1) (1) (1)|9 9 10"}, {"(1) (1) (1)|3 3 10", "(1) (1) (1)|3 3 10"},
		{"(2;3) (2;3) (1) (1)|3 1 2 1 2 1", "(1) (1) (2;3) (2;3)|1 1 1 2 2 3"}, {"(2;3) (1) (2;3) (1)|1 1 2 2 1 1", "(1) (1) (2;3) (2;3)|1 1 2 2 1 1"},
	} {
		want, _ := curveAsLists(textCurve(t, c.want), 0)
		checkCurve(t, "LeastCurve", contactFunctions()["LeastCurve"], textCurve(t, c.text), want, impl.ErrNone)
		if least, _ := curveAsLists(slowLeast(textCurve(t, c.text)), 0); !sameLists(least, want) {
			t.Errorf("the least curve of %q is %v; wanted %q", c.text, least, c.want)
		}
	}
}

// TestTotalIntersections checks sums of intersection numbers, and that those of all branches are twice those of all
// pairs: what the delta invariants of the branches leave of that of the curve.
func TestTotalIntersections(t *testing.T) {
	for _, c := range append(smallCurves(), someCurves()...) {
		facts := slowCurveFacts(c)
		var all, own int64
		for i, row := range facts.numbers {
			var total int64
			for k := range row {
				n, _ := impl.IntersectionNumber(c, int64(i), int64(k))
				total += n
			}
			want, _ := numberAsLists(total, 0)
			checkCurve(t, "TotalIntersection", totalOf(int64(i)), c, want, impl.ErrNone)
			n, _ := impl.TotalIntersection(c, int64(i))
			all += n
			own += slowDelta(pointsOfTerms(c.Branches[i].Terms).sequence)
		}
		if all != 2*(facts.delta-own) {
			t.Errorf("total intersections of %v make %d; wanted %d", c, all, 2*(facts.delta-own))
		}
	}
	for i, want := range []int64{5, 3, 4} {
		checkCurve(t, "TotalIntersection", totalOf(int64(i)), textCurve(t, "(2;3) (1) (1)|1 2 1"), [][]int64{{want}}, impl.ErrNone)
	}
	checkCurve(t, "TotalIntersection", totalOf(0), textCurve(t, "(4;6,7)"), nil, impl.ErrNone)
	checkCurve(t, "TotalIntersection", totalOf(5), evenCurve(mostCommon, slices.Repeat([][]int64{{64, 65}}, mostBranches)...), [][]int64{{5 * 4295}}, impl.ErrNone)
}

// TestNoBranches checks that all functions refuse what is no branch, in each place, also with numbers that are out of
// their ranges, and with such that branches cannot share.
func TestNoBranches(t *testing.T) {
	for _, terms := range invalidBranches() {
		checkOne(t, "PolarInvariants", polarOf, terms, nil, impl.ErrInvalid)
		for _, i := range []int64{1, 2, 0, -1, 7, math.MaxInt64, math.MinInt64} {
			checkOne(t, "SemirootOf", semirootFor(i), terms, nil, impl.ErrInvalid)
		}
		for _, other := range [][]int64{{1}, {2, 3}, {4, 6, 7}, terms, {2, 4}, nil} {
			checkTwo(t, "GreatestCommon", greatestOf, terms, other, nil, impl.ErrInvalid)
			for _, c := range []int64{1, 2, 3, mostCommon, 0, -1, mostCommon + 1, math.MaxInt64, math.MinInt64} {
				checkTwo(t, "CanShare", sharing(c), terms, other, nil, impl.ErrInvalid)
				checkTwo(t, "IntersectionWith", meetingWith(c), terms, other, nil, impl.ErrInvalid)
				checkTwo(t, "PossibleIntersections", possibleUpTo(c), terms, other, nil, impl.ErrInvalid)
			}
		}
	}
}

// TestNoCurves checks that all functions refuse what is no curve, also with branches that do not exist, with such that
// have no strict transform, and beside curves with other numbers of branches.
func TestNoCurves(t *testing.T) {
	long := []int64{2, 1999}
	list := append(invalidCurves(), evenCurve(mostCommon+1, long, long), evenCurve(0, long, long), evenCurve(1, long, []int64{2, 4}), evenCurve(2, long, []int64{2, 3}, []int64{2, 3}), withCommon(evenCurve(2, long, long), 0, 1, 1), curve([][]int64{long}, [][]int64{{1}}), curve([][]int64{long}, nil))
	right := []impl.Curve{evenCurve(0, []int64{1}), evenCurve(2, []int64{1}, []int64{2, 3}), evenCurve(0, long), evenCurve(1, slices.Repeat([][]int64{{1}}, mostBranches)...)}
	for n, c := range list {
		for name, f := range contactFunctions() {
			checkCurve(t, name, f, c, nil, impl.ErrInvalid)
		}
		for _, i := range []int64{0, 1, -1, int64(len(c.Branches)), mostBranches, math.MaxInt64, math.MinInt64} {
			checkCurve(t, "TotalIntersection", totalOf(i), c, nil, impl.ErrInvalid)
			for _, k := range []int64{0, 1, -1, i} {
				checkCurve(t, "DistanceOf", distanceOf(i, k), c, nil, impl.ErrInvalid)
				checkCurve(t, "DistanceOf", distanceOf(k, i), c, nil, impl.ErrInvalid)
			}
		}
		for _, d := range append(right, c, list[(n+1)%len(list)]) {
			checkCurve(t, "CurveEquality", equalityWith(t, d), c, nil, impl.ErrInvalid)
			checkCurve(t, "CurveEquality", equalityWith(t, c), d, nil, impl.ErrInvalid)
		}
	}
}

// TestContactResultsAreNew checks that curves and branches of results share no memory with arguments or with each other.
func TestContactResultsAreNew(t *testing.T) {
	given := textCurve(t, "(2;3) (1) (4;6,7) (2;3) (1)|2 3 3 1 2 2 1 4 1 1")
	checkCurveKept(t, "BlowUpCurve", given, func(c impl.Curve) {
		kept, code := copiedCurves(impl.BlowUpCurve(c))
		again, againCode := copiedCurves(impl.BlowUpCurve(c))
		want := curvesAsLists([]impl.Curve{textCurve(t, "(1) (1) (2;5) (1)|1 2 2 1 1 3"), textCurve(t, "(1)")})
		if !sameLists(kept, want) || !sameLists(again, want) || code != impl.ErrNone || againCode != code {
			t.Errorf("BlowUpCurve(%v) = %v, %d, then %v, %d; wanted %v", c, kept, code, again, againCode, want)
		}
	})
	// Curves that are their own least curves, and equal to themselves.
	own := slowLeast(given)
	for range 2 {
		want, _ := curveAsLists(own, 0)
		checkCurve(t, "LeastCurve", contactFunctions()["LeastCurve"], own, want, impl.ErrNone)
		checkCurve(t, "CurveEquality", equalityWith(t, own), own, [][]int64{{0, 1, 2, 3, 4}}, impl.ErrNone)
	}
	// Smooth branches are their own strict transforms.
	smooth := evenCurve(3, []int64{1}, []int64{1})
	want := curvesAsLists([]impl.Curve{evenCurve(2, []int64{1}, []int64{1})})
	checkCurve(t, "BlowUpCurve", contactFunctions()["BlowUpCurve"], smooth, want, impl.ErrNone)
	// Both branches, or both curves, are the same argument.
	checkBranchKept(t, "IntersectionWith", []int64{2, 3}, func(b impl.Branch) {
		if n, code := impl.IntersectionWith(b, b, 3); n != 6 || code != impl.ErrNone {
			t.Errorf("IntersectionWith(%v, %v, 3) = %d, %d", b, b, n, code)
		}
	})
	checkCurveKept(t, "CurveEquality", given, func(c impl.Curve) {
		if p, code := impl.CurveEquality(c, c); !slices.Equal(p, []int64{0, 1, 2, 3, 4}) || code != impl.ErrNone {
			t.Errorf("CurveEquality(%v, %v) = %v, %d", c, c, p, code)
		}
	})
}
