package tests

import (
	"math"
	"math/rand"
	"regexp"
	"slices"
	"strconv"
	"strings"
	"testing"

	"loop.example/g01140/impl"
)

const (
	mostN    = impl.MaxMultiplicity
	mostTerm = impl.MaxTerm
)

// longBranch is the characteristic with the greatest number of pairs.
var longBranch = []int64{64, 96, 112, 120, 124, 126, 127}

// branch makes a branch of its terms.
func branch(terms ...int64) impl.Branch {
	return impl.Branch{Terms: terms}
}

// outsideTerms returns numbers that are in no range of chapter 3.
func outsideTerms() []int64 {
	return []int64{0, -1, -2, -3, -64, mostTerm + 1, 4001, math.MaxInt64, math.MaxInt64 - 1, math.MinInt64, math.MinInt64 + 1, 1 << 32, 1<<32 + 3, -1 << 32}
}

// slowDivisor finds the greatest common divisor of naturals by trying all numbers.
func slowDivisor(list ...int64) int64 {
	for d := slices.Min(list); d > 1; d-- {
		if !slices.ContainsFunc(list, func(n int64) bool { return n%d != 0 }) {
			return d
		}
	}
	return 1
}

// slowDivisors returns e(0), .., e(g) of a list n, b(1), .., b(g).
func slowDivisors(list []int64) []int64 {
	var divisors []int64
	for i := range list {
		divisors = append(divisors, slowDivisor(list[:i+1]...))
	}
	return divisors
}

// slowDescends tells by the definition whether the divisors of a list of naturals descend to 1.
func slowDescends(list []int64) bool {
	divisors := slowDivisors(list)
	for i := 1; i < len(divisors); i++ {
		if divisors[i] >= divisors[i-1] {
			return false
		}
	}
	return divisors[len(divisors)-1] == 1
}

// slowIsBranch tells by the definition whether a list is a characteristic.
func slowIsBranch(list []int64) bool {
	if len(list) == 0 || list[0] < 1 || list[0] > mostN {
		return false
	}
	for i := 1; i < len(list); i++ {
		if list[i] <= list[i-1] || list[i] > mostTerm {
			return false
		}
	}
	return slowDescends(list)
}

// slowIsTurned tells by the definition whether a list is a turned characteristic.
func slowIsTurned(list []int64) bool {
	if len(list) < 2 || list[0] < 2 || list[0] > mostN || list[1] < 1 || list[1] >= list[0] {
		return false
	}
	for i := 2; i < len(list); i++ {
		if list[i] <= list[i-1] || list[i] > mostTerm {
			return false
		}
	}
	return slowDescends(list)
}

// milnorByExponents calculates the Milnor number of a parametrisation from its characteristic, turned
// or not: the sum of all (b(i) - 1) (e(i - 1) - e(i)).
func milnorByExponents(list []int64) int64 {
	divisors := slowDivisors(list)
	var sum int64
	for i := 1; i < len(list); i++ {
		sum += (list[i] - 1) * (divisors[i-1] - divisors[i])
	}
	return sum
}

// allLists calls f with all lists of at most the given length whose numbers are in low..high.
func allLists(length int, low, high int64, f func(list []int64)) {
	var extend func(list []int64)
	extend = func(list []int64) {
		f(list)
		if len(list) == length {
			return
		}
		for n := low; n <= high; n++ {
			extend(append(slices.Clone(list), n))
		}
	}
	extend(nil)
}

// branchesWithin returns all characteristics whose multiplicity and terms are at most those given.
func branchesWithin(n, term int64) [][]int64 {
	var branches [][]int64
	var extend func(list []int64, e int64)
	extend = func(list []int64, e int64) {
		if e == 1 {
			branches = append(branches, list)
			return
		}
		for b := list[len(list)-1] + 1; b <= term; b++ {
			if d := slowDivisor(e, b); d < e {
				extend(append(slices.Clone(list), b), d)
			}
		}
	}
	for m := int64(1); m <= n; m++ {
		extend([]int64{m}, m)
	}
	return branches
}

// wideBranches returns branches at the limits, and random ones in between.
func wideBranches() [][]int64 {
	branches := [][]int64{
		{1}, {2, 3}, {2, 1999}, {3, 2000}, {63, 2000}, {64, 65}, {64, 1999}, {64, 1998, 1999}, {63, 1998, 2000}, {64, 1568, 1999},
		longBranch, {64, 1952, 1968, 1976, 1980, 1982, 1983}, {48, 72, 84, 90, 93, 94},
	}
	r := rand.New(rand.NewSource(31))
	for len(branches) < 3000 {
		n := 1 + r.Int63n(mostN)
		if r.Intn(2) == 0 {
			n = []int64{12, 16, 24, 32, 36, 48, 60, 64}[r.Intn(8)]
		}
		branches = append(branches, randomCharacteristic(r, n))
	}
	return branches
}

// randomCharacteristic returns a characteristic with the multiplicity n.
func randomCharacteristic(r *rand.Rand, n int64) []int64 {
	for {
		list, e := []int64{n}, n
		for e > 1 && list[len(list)-1] < mostTerm {
			before := list[len(list)-1]
			b := before + 1 + r.Int63n(min(mostTerm-before, 300))
			// Multiples of divisors of e keep the divisors from descending to 1 at once.
			if f := 2 + r.Int63n(3); e%f == 0 && r.Intn(3) > 0 {
				b -= b % (e / f)
			}
			if d := slowDivisor(e, b); d < e && b > before {
				list, e = append(list, b), d
			}
		}
		if e == 1 {
			return list
		}
	}
}

// invalidBranches returns lists that are no characteristics.
func invalidBranches() [][]int64 {
	lists := [][]int64{
		nil, {}, {2}, {64}, {65}, {1, 1}, {1, 2}, {1, 3}, {1, 2, 3}, {2, 2}, {2, 4}, {2, 2000}, {2, 4, 5}, {2, 3, 4}, {2, 3, 5}, {2, 3, 3}, {3, 2}, {4, 6}, {4, 6, 8},
		{4, 6, 6}, {4, 6, 5}, {4, 7, 6}, {4, 5, 6}, {4, 5, 7}, {4, 3}, {4, 2, 3}, {4, 4, 6, 7}, {4, 8, 9}, {4, 6, 8, 9}, {4, 6, 7, 8}, {4, 6, 7, 9}, {6, 4, 7}, {6, 9, 12, 13},
		{6, 9}, {6, 9, 15}, {65, 66}, {66, 99, 100}, {128, 129}, {2, 2001}, {3, 2001}, {64, 2001}, {64, 1984, 2001}, {4, 1998, 2001}, {2, 3, 0}, {2, 3, 2001}, {0, 1}, {0, 3}, {-1},
		{-2, 3}, {2, -3}, {-2, -3}, {5, 1}, {3, 1}, {12, 18, 20}, {12, 18, 20, 22}, {12, 18, 24, 25}, {64, 96, 112, 120, 124, 126}, {64, 96, 112, 120, 124, 126, 128},
		append(slices.Clone(longBranch), 128), append(slices.Clone(longBranch), 127), append([]int64{128, 192}, 224, 240, 248, 252, 254, 255), repeated(1, 2), repeated(2, 3000),
		{1 << 32, 1<<32 + 1},
	}
	ramp := make([]int64, 3000)
	for i := range ramp {
		ramp[i] = int64(i + 1)
	}
	lists = append(lists, ramp, ramp[1:], ramp[1:3000:3000], ramp[63:2000], ramp[63:2001])
	for _, n := range outsideTerms() {
		lists = append(lists, []int64{n}, []int64{n, 3}, []int64{2, n}, []int64{n, n}, []int64{n, 6, 7}, []int64{4, n, 7}, []int64{4, 6, n}, []int64{2, 3, n}, []int64{1, n})
	}
	return lists
}

// checkBranchKept calls f on a branch with spare capacity, and checks that f changes neither the
// terms nor what stands behind them.
func checkBranchKept(t *testing.T, name string, terms []int64, f func(b impl.Branch)) {
	t.Helper()
	checkListKept(t, name, terms, func(list []int64) { f(impl.Branch{Terms: list}) })
}

// scribble writes all over lists and what stands behind them.
func scribble(lists ...[]int64) {
	for _, list := range lists {
		for i := range list[:cap(list)] {
			list[:cap(list)][i] = -99
		}
	}
}

// copyLists returns a copy of lists.
func copyLists(lists [][]int64) [][]int64 {
	copied := make([][]int64, len(lists))
	for i, list := range lists {
		copied[i] = slices.Clone(list)
	}
	return copied
}

// sameLists reports whether lists are the same.
func sameLists(p, q [][]int64) bool {
	return slices.EqualFunc(p, q, slices.Equal)
}

func TestBranchConstants(t *testing.T) {
	if mostN != 64 || mostTerm != 2000 {
		t.Errorf("MaxMultiplicity is %d, MaxTerm is %d", mostN, mostTerm)
	}
}

func TestIsBranch(t *testing.T) {
	for _, list := range append(wideBranches(), []int64{4, 6, 7}, []int64{4, 5}, []int64{12, 18, 20, 21}, []int64{63, 64}, []int64{64, 1992, 1999}) {
		checkBranchKept(t, "IsBranch", list, func(b impl.Branch) {
			if !slowIsBranch(list) || !impl.IsBranch(b) {
				t.Errorf("IsBranch(%v) is false", list)
			}
		})
	}
	for _, list := range invalidBranches() {
		checkBranchKept(t, "IsBranch", list, func(b impl.Branch) {
			if impl.IsBranch(b) {
				t.Errorf("IsBranch(%v) is true", list)
			}
		})
	}
	// The greatest multiplicity and the greatest term, and one more.
	for n := int64(2); n <= mostN+2; n++ {
		if impl.IsBranch(branch(n, n+1)) != (n <= mostN) {
			t.Errorf("IsBranch({%d, %d}) is %v", n, n+1, n > mostN)
		}
		for b := int64(mostTerm - 3); b <= mostTerm+3; b++ {
			if want := n <= mostN && b <= mostTerm && slowDivisor(n, b) == 1; impl.IsBranch(branch(n, b)) != want {
				t.Errorf("IsBranch({%d, %d}) is %v", n, b, !want)
			}
		}
	}
}

// TestIsBranchOfShortLists checks all short lists of small numbers.
func TestIsBranchOfShortLists(t *testing.T) {
	found := 0
	check := func(list []int64) {
		want := slowIsBranch(list)
		if want {
			found++
		}
		if impl.IsBranch(impl.Branch{Terms: list}) != want {
			t.Errorf("IsBranch(%v) is %v", list, !want)
		}
	}
	allLists(3, -1, 30, check)
	allLists(4, 1, 15, check)
	if found < 400 {
		t.Errorf("only %d lists are branches", found)
	}
}

func TestInvalidBranches(t *testing.T) {
	for _, list := range invalidBranches() {
		b := impl.Branch{Terms: list}
		if n, code := impl.MultiplicityOf(b); n != 0 || code != impl.ErrInvalid {
			t.Errorf("MultiplicityOf(%v) = %d, %d", list, n, code)
		}
		if n, code := impl.CountPairs(b); n != 0 || code != impl.ErrInvalid {
			t.Errorf("CountPairs(%v) = %d, %d", list, n, code)
		}
		if x, code := impl.DivisorsOf(b); len(x) != 0 || code != impl.ErrInvalid {
			t.Errorf("DivisorsOf(%v) = %v, %d", list, x, code)
		}
		if x, code := impl.PuiseuxPairs(b); len(x) != 0 || code != impl.ErrInvalid {
			t.Errorf("PuiseuxPairs(%v) = %v, %d", list, x, code)
		}
		if x, code := impl.NewtonPairs(b); len(x) != 0 || code != impl.ErrInvalid {
			t.Errorf("NewtonPairs(%v) = %v, %d", list, x, code)
		}
		// That k is out of its range counts behind this.
		for _, k := range []int64{0, 1, -1, 7, math.MaxInt64, math.MinInt64} {
			if c, code := impl.TruncateBranch(b, k); len(c.Terms) != 0 || code != impl.ErrInvalid {
				t.Errorf("TruncateBranch(%v, %d) = %v, %d", list, k, c, code)
			}
		}
		if s, code := impl.BranchText(b); s != "" || code != impl.ErrInvalid {
			t.Errorf("BranchText(%v) = %q, %d", list, s, code)
		}
	}
}

// branchCase is a branch with what follows from it.
type branchCase struct {
	terms, divisors     []int64
	puiseux, newton     [][]int64
	text                string
	multiplicity, count int64
}

func branchCases() []branchCase {
	return []branchCase{
		{[]int64{1}, []int64{1}, nil, nil, "(1)", 1, 0},
		{[]int64{2, 3}, []int64{2, 1}, [][]int64{{3, 2}}, [][]int64{{3, 2}}, "(2;3)", 2, 1},
		{[]int64{4, 6, 7}, []int64{4, 2, 1}, [][]int64{{3, 2}, {7, 2}}, [][]int64{{3, 2}, {1, 2}}, "(4;6,7)", 4, 2},
		{[]int64{4, 6, 9}, []int64{4, 2, 1}, [][]int64{{3, 2}, {9, 2}}, [][]int64{{3, 2}, {3, 2}}, "(4;6,9)", 4, 2},
		{[]int64{4, 5}, []int64{4, 1}, [][]int64{{5, 4}}, [][]int64{{5, 4}}, "(4;5)", 4, 1},
		{[]int64{6, 8, 11}, []int64{6, 2, 1}, [][]int64{{4, 3}, {11, 2}}, [][]int64{{4, 3}, {3, 2}}, "(6;8,11)", 6, 2},
		{[]int64{6, 9, 10}, []int64{6, 3, 1}, [][]int64{{3, 2}, {10, 3}}, [][]int64{{3, 2}, {1, 3}}, "(6;9,10)", 6, 2},
		{
			[]int64{12, 18, 20, 21}, []int64{12, 6, 2, 1}, [][]int64{{3, 2}, {10, 3}, {21, 2}},
			[][]int64{{3, 2}, {1, 3}, {1, 2}}, "(12;18,20,21)", 12, 3,
		},
		{[]int64{64, 65}, []int64{64, 1}, [][]int64{{65, 64}}, [][]int64{{65, 64}}, "(64;65)", 64, 1},
		{[]int64{63, 2000}, []int64{63, 1}, [][]int64{{2000, 63}}, [][]int64{{2000, 63}}, "(63;2000)", 63, 1},
		{[]int64{2, 1999}, []int64{2, 1}, [][]int64{{1999, 2}}, [][]int64{{1999, 2}}, "(2;1999)", 2, 1},
		{[]int64{64, 1998, 1999}, []int64{64, 2, 1}, [][]int64{{999, 32}, {1999, 2}}, [][]int64{{999, 32}, {1, 2}}, "(64;1998,1999)", 64, 2},
		{
			longBranch, []int64{64, 32, 16, 8, 4, 2, 1}, [][]int64{{3, 2}, {7, 2}, {15, 2}, {31, 2}, {63, 2}, {127, 2}},
			[][]int64{{3, 2}, {1, 2}, {1, 2}, {1, 2}, {1, 2}, {1, 2}}, "(64;96,112,120,124,126,127)", 64, 6,
		},
	}
}

func TestBranchCases(t *testing.T) {
	for _, c := range branchCases() {
		checkBranchKept(t, "a function of a branch", c.terms, func(b impl.Branch) {
			if n, code := impl.MultiplicityOf(b); n != c.multiplicity || code != impl.ErrNone {
				t.Errorf("MultiplicityOf(%v) = %d, %d", b, n, code)
			}
			if n, code := impl.CountPairs(b); n != c.count || code != impl.ErrNone {
				t.Errorf("CountPairs(%v) = %d, %d", b, n, code)
			}
			divisors, code := impl.DivisorsOf(b)
			if !slices.Equal(divisors, c.divisors) || code != impl.ErrNone {
				t.Errorf("DivisorsOf(%v) = %v, %d", b, divisors, code)
			}
			puiseux, code := impl.PuiseuxPairs(b)
			if !sameLists(puiseux, c.puiseux) || code != impl.ErrNone {
				t.Errorf("PuiseuxPairs(%v) = %v, %d", b, puiseux, code)
			}
			newton, code := impl.NewtonPairs(b)
			if !sameLists(newton, c.newton) || code != impl.ErrNone {
				t.Errorf("NewtonPairs(%v) = %v, %d", b, newton, code)
			}
			if s, code := impl.BranchText(b); s != c.text || code != impl.ErrNone {
				t.Errorf("BranchText(%v) = %q, %d", b, s, code)
			}
			// Results that shared memory with the branch would change it.
			scribble(append(append(puiseux, newton...), divisors)...)
		})
		for name, f := range pairFunctions() {
			pairs := map[string][][]int64{"BranchOfPuiseux": c.puiseux, "BranchOfNewton": c.newton}[name]
			checkBranchOfPairs(t, name, f, pairs, c.terms, impl.ErrNone)
		}
		checkParsed(t, c.text, c.terms)
	}
}

// TestDivisorsAndPairs checks divisors and pairs by their definitions.
func TestDivisorsAndPairs(t *testing.T) {
	for _, terms := range append(branchesWithin(12, 26), wideBranches()...) {
		b := impl.Branch{Terms: terms}
		e := slowDivisors(terms)
		if x, code := impl.DivisorsOf(b); !slices.Equal(x, e) || code != impl.ErrNone {
			t.Fatalf("DivisorsOf(%v) = %v, %d", terms, x, code)
		}
		var puiseux, newton [][]int64
		for i := 1; i < len(terms); i++ {
			puiseux = append(puiseux, []int64{terms[i] / e[i], e[i-1] / e[i]})
			newton = append(newton, []int64{terms[i] / e[i], e[i-1] / e[i]})
			if i > 1 {
				newton[i-1][0] = (terms[i] - terms[i-1]) / e[i]
			}
		}
		if x, code := impl.PuiseuxPairs(b); !sameLists(x, puiseux) || code != impl.ErrNone {
			t.Fatalf("PuiseuxPairs(%v) = %v, %d", terms, x, code)
		}
		if x, code := impl.NewtonPairs(b); !sameLists(x, newton) || code != impl.ErrNone {
			t.Fatalf("NewtonPairs(%v) = %v, %d", terms, x, code)
		}
	}
}

func TestPairsShareNothing(t *testing.T) {
	for name, f := range map[string]func(impl.Branch) ([][]int64, int64){"PuiseuxPairs": impl.PuiseuxPairs, "NewtonPairs": impl.NewtonPairs} {
		b := branch(longBranch...)
		want, _ := f(b)
		want = copyLists(want)
		lists, _ := f(b)
		for i := range lists {
			scribble(lists[i])
			_ = append(lists[i], -98)
			for k := i + 1; k < len(lists); k++ {
				if !slices.Equal(lists[k], want[k]) {
					t.Errorf("%s: list %d shares memory with list %d: %v", name, i, k, lists)
				}
			}
		}
		if again, _ := f(b); !sameLists(again, want) {
			t.Errorf("%s: results of several calls share memory: %v", name, again)
		}
	}
}

// pairFunction is a function that makes a branch of pairs.
type pairFunction func(pairs [][]int64) (impl.Branch, int64)

func pairFunctions() map[string]pairFunction {
	return map[string]pairFunction{"BranchOfPuiseux": impl.BranchOfPuiseux, "BranchOfNewton": impl.BranchOfNewton}
}

// checkBranchOfPairs checks the result of f for lists with spare capacity, which f must leave as they are.
func checkBranchOfPairs(t *testing.T, name string, f pairFunction, pairs [][]int64, want []int64, wantCode int64) {
	t.Helper()
	whole := make([][]int64, len(pairs))
	given := make([][]int64, len(pairs), len(pairs)+2)
	for i, p := range pairs {
		whole[i] = append(slices.Clone(p), 71, 72)
		given[i] = whole[i][:len(p)]
	}
	b, code := f(given)
	if !slices.Equal(b.Terms, want) || code != wantCode {
		t.Errorf("%s(%v) = %v, %d; wanted %v, %d", name, pairs, b, code, want, wantCode)
	}
	scribble(b.Terms)
	for i, p := range pairs {
		if !slices.Equal(whole[i], append(slices.Clone(p), 71, 72)) {
			t.Errorf("%s changes its argument: %v is now %v", name, pairs, given)
		}
	}
	if spare := given[:len(given)+2]; spare[len(given)] != nil || spare[len(given)+1] != nil {
		t.Errorf("%s(%v) writes behind its argument", name, pairs)
	}
}

// TestBranchesComeBack checks promise 3: a branch is that of its Puiseux pairs, of its Newton pairs,
// and of its Terms as exponents; and the guarantee that truncations after all pairs are the branch,
// and that texts are parsed to their branches.
func TestBranchesComeBack(t *testing.T) {
	branches := append(branchesWithin(18, 44), wideBranches()...)
	branches = append(branches, invalidBranches()...)
	back := 0
	for _, terms := range branches {
		b := impl.Branch{Terms: terms}
		puiseux, code := impl.PuiseuxPairs(b)
		if code != impl.ErrNone {
			continue
		}
		back++
		if c, code := impl.BranchOfPuiseux(puiseux); !slices.Equal(c.Terms, terms) || code != impl.ErrNone {
			t.Errorf("BranchOfPuiseux(%v) = %v, %d; wanted %v", puiseux, c, code, terms)
		}
		newton, _ := impl.NewtonPairs(b)
		if c, code := impl.BranchOfNewton(newton); !slices.Equal(c.Terms, terms) || code != impl.ErrNone {
			t.Errorf("BranchOfNewton(%v) = %v, %d; wanted %v", newton, c, code, terms)
		}
		if c, code := impl.BranchOfExponents(terms[0], terms[1:]); !slices.Equal(c.Terms, terms) || code != impl.ErrNone {
			t.Errorf("BranchOfExponents(%v) = %v, %d", terms, c, code)
		}
		if c, code := impl.BranchOfExponents(terms[0], terms); !slices.Equal(c.Terms, terms) || code != impl.ErrNone {
			t.Errorf("BranchOfExponents(%v) with the multiplicity = %v, %d", terms, c, code)
		}
		if c, code := impl.TruncateBranch(b, int64(len(puiseux))); !slices.Equal(c.Terms, terms) || code != impl.ErrNone {
			t.Errorf("TruncateBranch(%v) after all pairs = %v, %d", terms, c, code)
		}
		text, _ := impl.BranchText(b)
		if c, code := impl.ParseBranch(text); !slices.Equal(c.Terms, terms) || code != impl.ErrNone {
			t.Errorf("ParseBranch(%q) = %v, %d; wanted %v", text, c, code, terms)
		}
	}
	if back < 5000 {
		t.Errorf("only %d branches come back", back)
	}
}

func TestBranchOfPuiseux(t *testing.T) {
	for _, c := range []struct {
		pairs [][]int64
		want  []int64
		code  int64
	}{
		{nil, []int64{1}, 0},
		{[][]int64{}, []int64{1}, 0},
		{[][]int64{{3, 2}, {7, 2}}, []int64{4, 6, 7}, 0},
		{[][]int64{{2000, 63}}, []int64{63, 2000}, 0},
		{[][]int64{{1000, 3}, {2000, 3}}, nil, impl.ErrState},
		{[][]int64{{999, 32}, {1999, 2}}, []int64{64, 1998, 1999}, 0},
		{[][]int64{{1001, 32}, {1999, 2}}, nil, impl.ErrState},
		{[][]int64{{1000, 3}, {1999, 2}}, nil, impl.ErrState},
		{[][]int64{{997, 3}, {1999, 2}}, []int64{6, 1994, 1999}, 0},
		// Pairs of no branch: common divisors, numbers that do not ascend or are 1.
		{[][]int64{{4, 2}}, nil, impl.ErrState}, {[][]int64{{6, 4}}, nil, impl.ErrState}, {[][]int64{{2, 2}}, nil, impl.ErrState},
		{[][]int64{{1, 2}}, nil, impl.ErrState}, {[][]int64{{2, 3}}, nil, impl.ErrState}, {[][]int64{{63, 64}}, nil, impl.ErrState},
		{[][]int64{{1, 1}}, nil, impl.ErrState}, {[][]int64{{3, 1}}, nil, impl.ErrState}, {[][]int64{{2000, 1}}, nil, impl.ErrState},
		{[][]int64{{3, 2}, {7, 1}}, nil, impl.ErrState}, {[][]int64{{3, 1}, {7, 2}}, nil, impl.ErrState}, {[][]int64{{3, 2}, {3, 1}}, nil, impl.ErrState},
		{[][]int64{{3, 2}, {6, 2}}, nil, impl.ErrState}, {[][]int64{{3, 2}, {5, 2}}, nil, impl.ErrState}, {[][]int64{{3, 2}, {8, 2}}, nil, impl.ErrState},
		{[][]int64{{7, 2}, {3, 2}}, nil, impl.ErrState}, {[][]int64{{3, 2}, {3, 2}}, nil, impl.ErrState},
		// The branch {{8, 12, 13}} has the pairs {3, 2} and {13, 4}.
		{[][]int64{{3, 2}, {13, 4}}, []int64{8, 12, 13}, 0}, {[][]int64{{6, 4}, {13, 2}}, nil, impl.ErrState},
		{[][]int64{{9, 6}, {19, 2}}, nil, impl.ErrState}, {[][]int64{{3, 2}, {19, 6}}, []int64{12, 18, 19}, 0},
		// Six lists, and one more.
		{[][]int64{{3, 2}, {7, 2}, {15, 2}, {31, 2}, {63, 2}, {127, 2}}, longBranch, 0},
		{[][]int64{{3, 2}, {7, 2}, {15, 2}, {31, 2}, {63, 2}, {127, 1}}, nil, impl.ErrState},
		{[][]int64{{3, 2}, {7, 2}, {15, 2}, {31, 2}, {63, 2}, {127, 2}, {128, 1}}, nil, impl.ErrRange},
		{slices.Repeat([][]int64{{3, 1}}, 6), nil, impl.ErrState},
		{slices.Repeat([][]int64{{3, 1}}, 7), nil, impl.ErrRange},
		// Products of 64, and of more.
		{[][]int64{{65, 64}}, []int64{64, 65}, 0}, {[][]int64{{66, 65}}, nil, impl.ErrRange},
		{[][]int64{{3, 2}, {65, 32}}, nil, impl.ErrState},
		{[][]int64{{3, 2}, {97, 32}}, []int64{64, 96, 97}, 0}, {[][]int64{{3, 2}, {100, 33}}, nil, impl.ErrRange},
		{[][]int64{{14, 13}, {71, 5}}, nil, impl.ErrRange}, {[][]int64{{9, 8}, {73, 8}}, []int64{64, 72, 73}, 0},
		{[][]int64{{3, 2000}}, nil, impl.ErrRange}, {[][]int64{{4, 2}, {3, 33}}, nil, impl.ErrRange},
		{slices.Repeat([][]int64{{3, 2000}}, 6), nil, impl.ErrRange},
		// 1024 to the sixth and 2000 to the sixth are small or negative modulo 2^64.
		{slices.Repeat([][]int64{{3, 1024}}, 6), nil, impl.ErrRange}, {slices.Repeat([][]int64{{3, 1625}}, 6), nil, impl.ErrRange},
		// Terms of 2000, and of more.
		{[][]int64{{1999, 2}}, []int64{2, 1999}, 0}, {[][]int64{{2000, 2}}, nil, impl.ErrState}, {[][]int64{{2000, 3}}, []int64{3, 2000}, 0},
		{[][]int64{{1000, 3}, {2000, 2}}, nil, impl.ErrState}, {[][]int64{{2000, 9}, {1999, 2}}, nil, impl.ErrState},
		{[][]int64{{2000, 2}, {2000, 2}, {2000, 2}, {2000, 2}, {2000, 2}, {2000, 2}}, nil, impl.ErrState},
	} {
		checkBranchOfPairs(t, "BranchOfPuiseux", impl.BranchOfPuiseux, c.pairs, c.want, c.code)
	}
}

func TestBranchOfNewton(t *testing.T) {
	for _, c := range []struct {
		pairs [][]int64
		want  []int64
		code  int64
	}{
		{nil, []int64{1}, 0},
		{[][]int64{{3, 2}, {1, 2}}, []int64{4, 6, 7}, 0},
		{[][]int64{{3, 2}, {7, 2}}, []int64{4, 6, 13}, 0},
		{[][]int64{{7, 2}, {3, 2}}, []int64{4, 14, 17}, 0},
		{[][]int64{{3, 2}, {3, 2}}, []int64{4, 6, 9}, 0},
		{[][]int64{{3, 2}, {2, 2}}, nil, impl.ErrState},
		{[][]int64{{3, 2}, {1, 1}}, nil, impl.ErrState}, {[][]int64{{3, 1}, {1, 2}}, nil, impl.ErrState}, {[][]int64{{1, 1}}, nil, impl.ErrState},
		{[][]int64{{1, 2}, {3, 2}}, nil, impl.ErrState}, {[][]int64{{1, 2}}, nil, impl.ErrState}, {[][]int64{{4, 2}}, nil, impl.ErrState},
		{[][]int64{{6, 4}, {1, 2}}, nil, impl.ErrState}, {[][]int64{{3, 2}, {1, 4}}, []int64{8, 12, 13}, 0},
		{[][]int64{{3, 2}, {2, 3}}, []int64{6, 9, 11}, 0}, {[][]int64{{3, 2}, {1, 3}, {1, 2}}, []int64{12, 18, 20, 21}, 0},
		{[][]int64{{3, 2}, {1, 2}, {1, 2}, {1, 2}, {1, 2}, {1, 2}}, longBranch, 0},
		{[][]int64{{3, 2}, {1, 2}, {1, 2}, {1, 2}, {1, 2}, {1, 2}, {1, 1}}, nil, impl.ErrRange},
		// Terms of 2000, and of more: 6 + 1993 and 6 + 1995, 9 + 1991 and 9 + 1993.
		{[][]int64{{3, 2}, {1993, 2}}, []int64{4, 6, 1999}, 0}, {[][]int64{{3, 2}, {1995, 2}}, nil, impl.ErrState},
		{[][]int64{{3, 2}, {1991, 3}}, []int64{6, 9, 2000}, 0}, {[][]int64{{3, 2}, {1993, 3}}, nil, impl.ErrState},
		{[][]int64{{3, 2}, {1999, 2}}, nil, impl.ErrState}, {[][]int64{{1999, 2}, {1, 2}}, nil, impl.ErrState},
		{slices.Repeat([][]int64{{1999, 2}}, 6), nil, impl.ErrState}, {slices.Repeat([][]int64{{2000, 2}}, 6), nil, impl.ErrState},
		{slices.Repeat([][]int64{{1, 1}}, 6), nil, impl.ErrState}, {slices.Repeat([][]int64{{1, 1}}, 7), nil, impl.ErrRange},
		{[][]int64{{65, 64}}, []int64{64, 65}, 0}, {[][]int64{{66, 65}}, nil, impl.ErrRange}, {[][]int64{{3, 2}, {1, 32}}, []int64{64, 96, 97}, 0},
		{[][]int64{{3, 2}, {1, 33}}, nil, impl.ErrRange}, {slices.Repeat([][]int64{{3, 1024}}, 6), nil, impl.ErrRange},
	} {
		checkBranchOfPairs(t, "BranchOfNewton", impl.BranchOfNewton, c.pairs, c.want, c.code)
	}
}

// TestPairsOutOfRange checks lists that are not of two numbers in 1..MaxTerm, also where the product
// of the second numbers is too great, or other lists are pairs of no branch.
func TestPairsOutOfRange(t *testing.T) {
	bad := [][]int64{nil, {}, {3}, {3, 2, 1}, {3, 2, 2}}
	for _, n := range outsideTerms() {
		bad = append(bad, []int64{n, 2}, []int64{3, n}, []int64{n, n}, []int64{n})
	}
	for name, f := range pairFunctions() {
		for _, list := range bad {
			for _, pairs := range [][][]int64{
				{list}, {list, {7, 2}}, {{3, 2}, list}, {{3, 2}, {7, 2}, list}, {{4, 2}, list}, {{3, 1}, list}, {{66, 65}, list}, {list, {66, 65}}, {list, list},
				{{3, 2}, {7, 2}, {15, 2}, {31, 2}, {63, 2}, list}, slices.Repeat([][]int64{list}, 6), slices.Repeat([][]int64{list}, 7),
			} {
				checkBranchOfPairs(t, name, f, pairs, nil, impl.ErrRange)
			}
		}
		checkBranchOfPairs(t, name, f, make([][]int64, 100000), nil, impl.ErrRange)
		for n := int64(2); n <= 70; n++ {
			b, code := f([][]int64{{n + 1, n}})
			if n <= mostN && (!slices.Equal(b.Terms, []int64{n, n + 1}) || code != impl.ErrNone) || n > mostN && (len(b.Terms) != 0 || code != impl.ErrRange) {
				t.Errorf("%s({{%d, %d}}) = %v, %d", name, n+1, n, b, code)
			}
		}
	}
}

// keyOf makes a map key of lists.
func keyOf(lists [][]int64) string {
	var key strings.Builder
	for _, list := range lists {
		for _, n := range list {
			key.WriteString(strconv.FormatInt(n, 10) + ",")
		}
		key.WriteString(";")
	}
	return key.String()
}

// TestPairsOfAllBranches makes branches of all short lists of small pairs. Those that it does not find
// among the pairs of all branches that could have them are pairs of no branch.
func TestPairsOfAllBranches(t *testing.T) {
	const greatest, factor = 20, 4
	puiseuxOf, newtonOf := map[string][]int64{}, map[string][]int64{}
	// Of two pairs, b(1) is at most 20 * 4 and b(2) is at most 20 * 4 + 20.
	for _, terms := range branchesWithin(factor*factor, greatest*factor+greatest) {
		puiseux, _ := impl.PuiseuxPairs(impl.Branch{Terms: terms})
		newton, _ := impl.NewtonPairs(impl.Branch{Terms: terms})
		puiseuxOf[keyOf(puiseux)], newtonOf[keyOf(newton)] = terms, terms
	}
	var pairs [][]int64
	for p := int64(1); p <= greatest; p++ {
		for n := int64(1); n <= factor; n++ {
			pairs = append(pairs, []int64{p, n})
		}
	}
	lists := [][][]int64{nil}
	for _, p := range pairs {
		lists = append(lists, [][]int64{p})
		for _, q := range pairs {
			lists = append(lists, [][]int64{p, q})
		}
	}
	found := map[string]int{}
	for name, f := range pairFunctions() {
		of := map[string]map[string][]int64{"BranchOfPuiseux": puiseuxOf, "BranchOfNewton": newtonOf}[name]
		for _, list := range lists {
			want, ok := of[keyOf(list)]
			code := int64(impl.ErrState)
			if ok {
				found[name]++
				code = impl.ErrNone
			}
			checkBranchOfPairs(t, name, f, list, want, code)
		}
	}
	if found["BranchOfPuiseux"] < 30 || found["BranchOfNewton"] < 100 {
		t.Errorf("found %v branches", found)
	}
}

func TestTruncateBranch(t *testing.T) {
	for _, c := range []struct {
		terms []int64
		k     int64
		want  []int64
		code  int64
	}{
		{[]int64{4, 6, 7}, 0, []int64{1}, 0}, {[]int64{4, 6, 7}, 1, []int64{2, 3}, 0}, {[]int64{4, 6, 7}, 2, []int64{4, 6, 7}, 0},
		{[]int64{4, 6, 7}, 3, nil, impl.ErrRange}, {[]int64{4, 6, 7}, -1, nil, impl.ErrRange},
		{[]int64{4, 6, 7}, math.MaxInt64, nil, impl.ErrRange}, {[]int64{4, 6, 7}, math.MinInt64, nil, impl.ErrRange}, {[]int64{4, 6, 7}, 1 << 32, nil, impl.ErrRange},
		{[]int64{1}, 0, []int64{1}, 0}, {[]int64{1}, 1, nil, impl.ErrRange}, {[]int64{1}, -1, nil, impl.ErrRange},
		{[]int64{2, 3}, 0, []int64{1}, 0}, {[]int64{2, 3}, 1, []int64{2, 3}, 0}, {[]int64{2, 3}, 2, nil, impl.ErrRange},
		{[]int64{12, 18, 20, 21}, 1, []int64{2, 3}, 0}, {[]int64{12, 18, 20, 21}, 2, []int64{6, 9, 10}, 0}, {[]int64{12, 18, 20, 21}, 3, []int64{12, 18, 20, 21}, 0},
		{longBranch, 5, []int64{32, 48, 56, 60, 62, 63}, 0}, {longBranch, 6, longBranch, 0}, {longBranch, 7, nil, impl.ErrRange},
		{[]int64{64, 1998, 1999}, 1, []int64{32, 999}, 0},
	} {
		checkBranchKept(t, "TruncateBranch", c.terms, func(b impl.Branch) {
			r, code := impl.TruncateBranch(b, c.k)
			if !slices.Equal(r.Terms, c.want) || code != c.code {
				t.Errorf("TruncateBranch(%v, %d) = %v, %d; wanted %v, %d", c.terms, c.k, r, code, c.want, c.code)
			}
			scribble(r.Terms)
		})
	}
	for _, terms := range append(branchesWithin(12, 26), wideBranches()...) {
		e := slowDivisors(terms)
		for k := range terms {
			var want []int64
			for _, n := range terms[:k+1] {
				want = append(want, n/e[k])
			}
			r, code := impl.TruncateBranch(impl.Branch{Terms: terms}, int64(k))
			if !slices.Equal(r.Terms, want) || code != impl.ErrNone || !impl.IsBranch(r) {
				t.Errorf("TruncateBranch(%v, %d) = %v, %d; wanted %v", terms, k, r, code, want)
			}
		}
		if r, code := impl.TruncateBranch(impl.Branch{Terms: terms}, int64(len(terms))); len(r.Terms) != 0 || code != impl.ErrRange {
			t.Errorf("TruncateBranch(%v, %d) = %v, %d", terms, len(terms), r, code)
		}
	}
}

// multiplesOf returns the first multiples of n.
func multiplesOf(n int64, count int) []int64 {
	var list []int64
	for k := range count {
		list = append(list, n*int64(k+1))
	}
	return list
}

func TestBranchOfExponents(t *testing.T) {
	for _, c := range []struct {
		n    int64
		list []int64
		want []int64
		code int64
	}{
		{4, []int64{4, 6, 8, 9, 11}, []int64{4, 6, 9}, 0}, {4, []int64{6, 9}, []int64{4, 6, 9}, 0}, {4, []int64{4, 8, 12, 14, 16, 18, 19}, []int64{4, 14, 19}, 0},
		{2, []int64{2, 3}, []int64{2, 3}, 0}, {2, []int64{3}, []int64{2, 3}, 0}, {2, []int64{2, 4, 6, 8, 9, 10}, []int64{2, 9}, 0}, {3, []int64{3, 6, 8}, []int64{3, 8}, 0},
		{4, []int64{5, 6, 7}, []int64{4, 5}, 0}, {12, []int64{12, 16, 18, 20, 21}, []int64{12, 16, 18, 21}, 0}, {12, []int64{18, 20, 21}, []int64{12, 18, 20, 21}, 0},
		// The smooth branch, whatever the list is.
		{1, nil, []int64{1}, 0}, {1, []int64{1}, []int64{1}, 0}, {1, []int64{1, 2, 3}, []int64{1}, 0}, {1, []int64{2000}, []int64{1}, 0}, {1, multiplesOf(1, 64), []int64{1}, 0},
		// No such number, or none after some.
		{2, nil, nil, impl.ErrState}, {2, []int64{}, nil, impl.ErrState}, {2, []int64{2}, nil, impl.ErrState}, {2, []int64{2, 4, 2000}, nil, impl.ErrState},
		{4, []int64{6, 8}, nil, impl.ErrState}, {4, []int64{6, 8, 10, 12}, nil, impl.ErrState}, {4, []int64{4, 8}, nil, impl.ErrState}, {64, nil, nil, impl.ErrState},
		{64, multiplesOf(2, 64), nil, impl.ErrState}, {12, []int64{16, 18, 20, 22}, nil, impl.ErrState},
		// Numbers less than n.
		{2, []int64{1}, nil, impl.ErrState}, {2, []int64{1, 3}, nil, impl.ErrState}, {4, []int64{2, 5}, nil, impl.ErrState}, {4, []int64{3}, nil, impl.ErrState},
		{4, []int64{3, 6, 7}, nil, impl.ErrState}, {64, []int64{63, 65}, nil, impl.ErrState}, {64, []int64{64, 65}, []int64{64, 65}, 0}, {6, []int64{4, 7}, nil, impl.ErrState},
		// Limits.
		{64, longBranch, longBranch, 0}, {64, longBranch[1:], longBranch, 0}, {64, []int64{1999}, []int64{64, 1999}, 0}, {63, []int64{2000}, []int64{63, 2000}, 0},
		{63, []int64{2001}, nil, impl.ErrRange}, {63, []int64{64, 2001}, nil, impl.ErrRange}, {1, []int64{2001}, nil, impl.ErrRange},
		{2, append(multiplesOf(2, 63), 127), []int64{2, 127}, 0}, {2, append(multiplesOf(2, 64), 129), nil, impl.ErrRange}, {2, multiplesOf(2, 64), nil, impl.ErrState},
		{2, multiplesOf(2, 65), nil, impl.ErrRange}, {1, multiplesOf(1, 65), nil, impl.ErrRange}, {1, multiplesOf(1, 3000), nil, impl.ErrRange},
		{65, []int64{66}, nil, impl.ErrRange}, {0, []int64{3}, nil, impl.ErrRange}, {0, nil, nil, impl.ErrRange}, {-1, []int64{3}, nil, impl.ErrRange},
		{math.MinInt64, []int64{3}, nil, impl.ErrRange}, {math.MaxInt64, nil, nil, impl.ErrRange}, {-2, []int64{3}, nil, impl.ErrRange},
		// Lists that do not ascend, also behind the numbers that are needed.
		{2, []int64{3, 3}, nil, impl.ErrRange}, {2, []int64{3, 2}, nil, impl.ErrRange}, {2, []int64{4, 4, 5}, nil, impl.ErrRange}, {1, []int64{2, 1}, nil, impl.ErrRange},
		{1, []int64{2, 2}, nil, impl.ErrRange}, {1, []int64{0}, nil, impl.ErrRange}, {2, []int64{0, 3}, nil, impl.ErrRange}, {2, []int64{-1, 3}, nil, impl.ErrRange},
		{2, []int64{3, 5, 4}, nil, impl.ErrRange}, {4, []int64{3, 2}, nil, impl.ErrRange},
	} {
		checkListKept(t, "BranchOfExponents", c.list, func(list []int64) {
			r, code := impl.BranchOfExponents(c.n, list)
			if !slices.Equal(r.Terms, c.want) || code != c.code {
				t.Errorf("BranchOfExponents(%d, %v) = %v, %d; wanted %v, %d", c.n, c.list, r, code, c.want, c.code)
			}
			scribble(r.Terms)
		})
	}
	for _, n := range outsideTerms() {
		for _, list := range [][]int64{{n}, {3, n}, {n, 3}, {3, 4, n}, {n, n}} {
			for _, m := range []int64{1, 2, n} {
				if r, code := impl.BranchOfExponents(m, list); len(r.Terms) != 0 || code != impl.ErrRange {
					t.Errorf("BranchOfExponents(%d, %v) = %v, %d", m, list, r, code)
				}
			}
		}
	}
}

// slowBranchOfExponents follows the definition, for ascending lists.
func slowBranchOfExponents(n int64, list []int64) ([]int64, int64) {
	terms := []int64{n}
	for slowDivisor(terms...) > 1 {
		e := slowDivisor(terms...)
		i := slices.IndexFunc(list, func(b int64) bool { return b%e != 0 })
		if i < 0 || list[i] < n {
			return nil, impl.ErrState
		}
		terms = append(terms, list[i])
	}
	return terms, impl.ErrNone
}

// TestExponentsAgree checks all ascending lists of small exponents by the definition.
func TestExponentsAgree(t *testing.T) {
	codes := map[int64]int{}
	for mask := range 1 << 13 {
		var list []int64
		for b := range 13 {
			if mask>>b&1 == 1 {
				list = append(list, int64(b+1))
			}
		}
		for n := int64(1); n <= 8; n++ {
			want, wantCode := slowBranchOfExponents(n, list)
			if r, code := impl.BranchOfExponents(n, list); !slices.Equal(r.Terms, want) || code != wantCode {
				t.Fatalf("BranchOfExponents(%d, %v) = %v, %d; wanted %v, %d", n, list, r, code, want, wantCode)
			}
			codes[wantCode]++
		}
	}
	if codes[impl.ErrNone] < 1000 || codes[impl.ErrState] < 1000 {
		t.Errorf("codes are %v", codes)
	}
}

func TestTurnCharacteristic(t *testing.T) {
	for _, c := range []struct {
		list, want []int64
		code       int64
	}{
		{[]int64{3, 2}, []int64{2, 3}, 0}, {[]int64{4, 2, 3}, []int64{2, 5}, 0}, {[]int64{5, 1}, []int64{1}, 0}, {[]int64{2, 1}, []int64{1}, 0}, {[]int64{64, 1}, []int64{1}, 0},
		{[]int64{6, 4, 5}, []int64{4, 6, 7}, 0}, {[]int64{6, 4, 9}, []int64{4, 6, 11}, 0}, {[]int64{8, 4, 5}, []int64{4, 9}, 0}, {[]int64{8, 4, 6, 7}, []int64{4, 10, 11}, 0},
		{[]int64{64, 63}, []int64{63, 64}, 0}, {[]int64{64, 32, 33}, []int64{32, 65}, 0}, {[]int64{64, 32, 48, 49}, []int64{32, 80, 81}, 0}, {[]int64{64, 48, 49}, []int64{48, 64, 65}, 0},
		{[]int64{64, 32, 48, 56, 60, 62, 63}, []int64{32, 80, 88, 92, 94, 95}, 0}, {[]int64{64, 48, 56, 60, 62, 63}, []int64{48, 64, 72, 76, 78, 79}, 0},
		// Terms of 2000, and of more, whether n is a multiple of b(1) or not.
		{[]int64{4, 2, 1997}, []int64{2, 1999}, 0}, {[]int64{4, 2, 1999}, nil, impl.ErrState}, {[]int64{6, 3, 1997}, []int64{3, 2000}, 0}, {[]int64{6, 3, 1998}, nil, impl.ErrRange},
		{[]int64{6, 3, 1999}, nil, impl.ErrState}, {[]int64{6, 3, 2000}, nil, impl.ErrState}, {[]int64{9, 6, 1997}, []int64{6, 9, 2000}, 0}, {[]int64{9, 6, 1999}, nil, impl.ErrState},
		{[]int64{9, 6, 2000}, nil, impl.ErrState}, {[]int64{6, 4, 1997}, []int64{4, 6, 1999}, 0}, {[]int64{6, 4, 1999}, nil, impl.ErrState}, {[]int64{6, 4, 2001}, nil, impl.ErrRange},
		{[]int64{64, 2, 1937}, []int64{2, 1999}, 0}, {[]int64{64, 2, 1939}, nil, impl.ErrState}, {[]int64{8, 4, 1998, 1999}, nil, impl.ErrState},
		// Lists that are no turned characteristics.
		{nil, nil, impl.ErrRange}, {[]int64{}, nil, impl.ErrRange}, {[]int64{1}, nil, impl.ErrRange}, {[]int64{2}, nil, impl.ErrRange}, {[]int64{1, 1}, nil, impl.ErrRange},
		{[]int64{2, 3}, nil, impl.ErrRange}, {[]int64{4, 6, 7}, nil, impl.ErrRange}, {[]int64{2, 2}, nil, impl.ErrRange}, {[]int64{4, 4, 5}, nil, impl.ErrRange},
		{[]int64{65, 64}, nil, impl.ErrRange}, {[]int64{65, 2}, nil, impl.ErrRange}, {[]int64{65, 1}, nil, impl.ErrRange}, {[]int64{3, 0}, nil, impl.ErrRange}, {[]int64{3, -2}, nil, impl.ErrRange},
		{[]int64{4, 2}, nil, impl.ErrRange}, {[]int64{6, 4}, nil, impl.ErrRange}, {[]int64{6, 4, 8}, nil, impl.ErrRange}, {[]int64{6, 4, 4}, nil, impl.ErrRange}, {[]int64{6, 4, 3}, nil, impl.ErrRange},
		{[]int64{5, 1, 7}, nil, impl.ErrRange}, {[]int64{3, 2, 3}, nil, impl.ErrRange}, {[]int64{4, 2, 3, 5}, nil, impl.ErrRange}, {[]int64{4, 2, 4, 5}, nil, impl.ErrRange}, {[]int64{4, 2, 1}, nil, impl.ErrRange},
		{[]int64{6, 3, 2001, 2002}, nil, impl.ErrRange}, {[]int64{4, 2, 2001}, nil, impl.ErrRange}, {longBranch, nil, impl.ErrRange}, {[]int64{-2, -3}, nil, impl.ErrRange}, {[]int64{0, -1}, nil, impl.ErrRange},
	} {
		checkListKept(t, "TurnCharacteristic", c.list, func(list []int64) {
			r, code := impl.TurnCharacteristic(list)
			if !slices.Equal(r.Terms, c.want) || code != c.code {
				t.Errorf("TurnCharacteristic(%v) = %v, %d; wanted %v, %d", c.list, r, code, c.want, c.code)
			}
			scribble(r.Terms)
		})
	}
	bad := [][]int64{multiplesOf(1, 3000), repeated(2, 3000)}
	for _, n := range outsideTerms() {
		bad = append(bad, []int64{n, 2}, []int64{3, n}, []int64{n, n}, []int64{n}, []int64{4, 2, n}, []int64{n, 2, 3}, []int64{4, n, 3}, []int64{3, 2, n}, []int64{n, n - 1}, []int64{4, 2, 3, n})
	}
	for _, list := range bad {
		if r, code := impl.TurnCharacteristic(list); len(r.Terms) != 0 || code != impl.ErrRange {
			t.Errorf("TurnCharacteristic(%v) = %v, %d", list, r, code)
		}
	}
}

// slowTurn follows the definition of the branch of a turned characteristic.
func slowTurn(list []int64) ([]int64, int64) {
	if !slowIsTurned(list) {
		return nil, impl.ErrRange
	}
	terms := []int64{list[1], list[0]}
	if list[0]%list[1] == 0 {
		terms = terms[:1]
	}
	for _, b := range list[2:] {
		terms = append(terms, b+list[0]-list[1])
	}
	if slices.Max(terms) > mostTerm {
		return nil, impl.ErrState
	}
	return terms, impl.ErrNone
}

// checkTurned checks one list by the definition, and that the branch has the Milnor number that the
// exponents of the list tell. It returns the code.
func checkTurned(t *testing.T, list []int64) int64 {
	t.Helper()
	want, wantCode := slowTurn(list)
	r, code := impl.TurnCharacteristic(list)
	if !slices.Equal(r.Terms, want) || code != wantCode {
		t.Errorf("TurnCharacteristic(%v) = %v, %d; wanted %v, %d", list, r, code, want, wantCode)
	}
	if code == impl.ErrNone {
		milnor, milnorCode := impl.MilnorOfBranch(r)
		if !impl.IsBranch(r) || milnor != milnorByExponents(list) || milnorByExponents(r.Terms) != milnor || milnorCode != impl.ErrNone {
			t.Errorf("TurnCharacteristic(%v) = %v changes the Milnor number %d to %d, %d", list, r, milnorByExponents(list), milnor, milnorCode)
		}
	}
	return code
}

// TestTurningKeepsMilnorNumber checks the last part of promise 3 for all short lists of small numbers,
// and for lists up to the limits.
func TestTurningKeepsMilnorNumber(t *testing.T) {
	codes := map[int64]int{}
	check := func(list []int64) { codes[checkTurned(t, list)]++ }
	allLists(4, 1, 12, check)
	allLists(2, -1, mostN+2, check)
	r := rand.New(rand.NewSource(32))
	for _, terms := range wideBranches() {
		if len(terms) == 1 {
			continue
		}
		// What is turned to a branch whose second number is n, or is left out in front of the second one.
		if terms[1] <= mostN {
			list := []int64{terms[1], terms[0]}
			for _, b := range terms[2:] {
				list = append(list, b-terms[1]+terms[0])
			}
			check(list)
		}
		for n := 2 * terms[0]; n <= mostN; n += terms[0] {
			list := []int64{n}
			list = append(list, terms...)
			check(list)
			for i := range list[2:] {
				list[2+i] -= n - terms[0]
			}
			check(list)
		}
	}
	for round := range 20000 {
		list := []int64{[]int64{8, 12, 24, 36, 48, 64}[r.Intn(6)]}
		list = append(list, 1+r.Int63n(list[0]))
		// Turning takes some terms near MaxTerm beyond it.
		for slowDivisor(list...) > 1 && len(list) < 5 {
			list = append(list, list[len(list)-1]+1+r.Int63n(700))
			if round%2 == 0 {
				list[len(list)-1] = max(list[len(list)-2]+1, mostTerm-r.Int63n(64))
			}
		}
		check(list)
	}
	if codes[impl.ErrNone] < 3000 || codes[impl.ErrState] < 500 || codes[impl.ErrRange] < 3000 {
		t.Errorf("codes are %v", codes)
	}
}

// checkParsed checks the branch of a text.
func checkParsed(t *testing.T, text string, want []int64) {
	t.Helper()
	if b, code := impl.ParseBranch(text); !slices.Equal(b.Terms, want) || code != impl.ErrNone {
		t.Errorf("ParseBranch(%q) = %v, %d; wanted %v", text, b, code, want)
	}
}

func TestParseBranchSyntax(t *testing.T) {
	for _, text := range []string{
		"", "(", ")", "()", "(;)", "(,)", "1", "(1", "1)", "((1)", "(1))", "((1))", ")1(", "(1)(1)", "(1)1", "1(1)", "[1]", "{1}", "(1;)", "(1,)", "(;1)", "(,1)", "(1;1)", "(1;2)",
		"2;3", "(2;3", "2;3)", "((2;3)", "(2;3))", "(2;3)(2;3)", "(2,3)", "(2;;3)", "(2;3;)", "(2;3,)", "(2;,3)", "(2;3;5)", "(;2;3)", "(,2;3)", "(2;)", "(2:3)", "(2.3)", "(2/3)", "(2|3)",
		"(4;6;7)", "(4,6,7)", "(4,6;7)", "(4;6,,7)", "(4;6,7,)", "(4;,6,7)", "(4;6 7)", "(467)", "(46,7)", "(4;6,7;)", "(4;6:7)", "(4;6.7)",
		"(0)", "(2)", "(64)", "(65)", "(2;4)", "(2;2)", "(3;2)", "(2;1)", "(4;6)", "(4;6,8)", "(4;7,6)", "(4;5,6)", "(4;2,3)", "(6;4,5)", "(2;3,4)", "(65;66)", "(2;2001)", "(0;1)", "(4;6,7,8)",
		"(01)", "(001)", "(02;3)", "(2;03)", "(2;003)", "(04;6,7)", "(4;06,7)", "(4;6,07)", "(00000000001)", "(2;0000000003)",
		"(+1)", "(-1)", "(--1)", "(+2;3)", "(2;+3)", "(-2;3)", "(2;-3)", "(-2;-3)", "(4;6,+7)", "(4;6,-7)", "+(1)", "-(1)", "(2;3+)",
		" (1)", "(1) ", "( 1)", "(1 )", " ", "( )", "(2; 3)", "(2 ;3)", "(2;3 )", "( 2;3)", " (2;3)", "(2;3) ", "(4;6, 7)", "(4;6 ,7)", "(1)\n", "\n(1)", "(1\n)", "(2;\n3)", "(2;\t3)", "(2;3)\r",
		"(1000000000)", "(2;1000000003)", "(2;4294967299)", "(2;18446744073709551619)", "(18446744073709551617)", "(4294967297)", "(2;9223372036854775809)", "(2;99999999999999999999999999999)",
		"(x)", "(2;x)", "(a;b)", "(2;3x)", "(x2;3)", "(2;0x3)", "(2;3.0)", "(2;3e0)", "(2;1_1)", "(1)\x00", "\x00(1)", "(\x001)", "(2;\x003)", "(\xff)", "(2;3\xff)", "\xff(1)",
		"（1）", "(１)", "(2；3)", "(4;6，7)", "(2;３)", "(٢;٣)", "(2;−3)", "(é)", "\xe2\x88",
		"(128;192,224,240,248,252,254,255)", "(64;96,112,120,124,126,127,128)", "(64;96,112,120,124,126)",
	} {
		if b, code := impl.ParseBranch(text); len(b.Terms) != 0 || code != impl.ErrSyntax {
			t.Errorf("ParseBranch(%q) = %v, %d", text, b, code)
		}
	}
	for _, part := range []string{"(", ")", "1", "0", ",", ";", "2;", "3,", "(2;3)", "1,", " "} {
		long := strings.Repeat(part, 100000)
		for _, text := range []string{long, "(" + long + ")", "(2;" + long + "3)", "(2;3" + long} {
			if b, code := impl.ParseBranch(text); len(b.Terms) != 0 || code != impl.ErrSyntax {
				t.Errorf("ParseBranch of many %q = %v, %d", part, b, code)
			}
		}
	}
}

var branchPattern = regexp.MustCompile(`^\((0|[1-9][0-9]{0,3})(?:;((?:(?:0|[1-9][0-9]{0,3}),)*(?:0|[1-9][0-9]{0,3})))?\)$`)

// grammarBranch returns the branch of a text by the grammar of texts and the definition of branches.
func grammarBranch(text string) []int64 {
	m := branchPattern.FindStringSubmatch(text)
	if m == nil {
		return nil
	}
	numbers := []string{m[1]}
	if m[2] != "" {
		numbers = append(numbers, strings.Split(m[2], ",")...)
	}
	var terms []int64
	for _, s := range numbers {
		n, _ := strconv.ParseInt(s, 10, 64)
		terms = append(terms, n)
	}
	if !slowIsBranch(terms) {
		return nil
	}
	return terms
}

// checkAgreesWithGrammar checks one text, and returns whether it is that of a branch.
func checkAgreesWithGrammar(t *testing.T, text string) bool {
	t.Helper()
	want := grammarBranch(text)
	b, code := impl.ParseBranch(text)
	if want == nil {
		if len(b.Terms) != 0 || code != impl.ErrSyntax {
			t.Errorf("ParseBranch(%q) = %v, %d", text, b, code)
		}
		return false
	}
	if back, _ := impl.BranchText(b); !slices.Equal(b.Terms, want) || code != impl.ErrNone || back != text {
		t.Errorf("ParseBranch(%q) = %v, %d; wanted %v", text, b, code, want)
	}
	return true
}

// TestShortBranchTexts parses all short texts of the characters of branches, and all of them in
// brackets, and branches with one byte replaced, left out or put in.
func TestShortBranchTexts(t *testing.T) {
	read := 0
	check := func(text string) {
		if checkAgreesWithGrammar(t, text) {
			read++
		}
	}
	var extend func(text string, length int)
	extend = func(text string, length int) {
		check(text)
		check("(" + text + ")")
		if length == 0 {
			return
		}
		for _, r := range "(;,)02345 -" {
			extend(text+string(r), length-1)
		}
	}
	extend("", 5)
	r := rand.New(rand.NewSource(33))
	for _, terms := range wideBranches() {
		text, _ := impl.BranchText(impl.Branch{Terms: terms})
		check(text)
		for range 20 {
			i, c := r.Intn(len(text)), string("(;,)0123456789 +-x\n"[r.Intn(19)])
			check(text[:i] + c + text[i+1:])
			check(text[:i] + text[i+1:])
			check(text[:i] + c + text[i:])
			check(text + c)
		}
	}
	if read < 10000 {
		t.Errorf("only %d texts are branches", read)
	}
}

// TestBranchResultsAreNew checks that branches share no memory with arguments or with other results.
func TestBranchResultsAreNew(t *testing.T) {
	for name, f := range map[string]func() impl.Branch{
		"BranchOfPuiseux":    func() impl.Branch { b, _ := impl.BranchOfPuiseux([][]int64{{3, 2}, {7, 2}}); return b },
		"BranchOfNewton":     func() impl.Branch { b, _ := impl.BranchOfNewton([][]int64{{3, 2}, {1, 2}}); return b },
		"TruncateBranch":     func() impl.Branch { b, _ := impl.TruncateBranch(branch(8, 12, 14, 15), 2); return b },
		"BranchOfExponents":  func() impl.Branch { b, _ := impl.BranchOfExponents(4, []int64{6, 7}); return b },
		"TurnCharacteristic": func() impl.Branch { b, _ := impl.TurnCharacteristic([]int64{6, 4, 5}); return b },
		"ParseBranch":        func() impl.Branch { b, _ := impl.ParseBranch("(4;6,7)"); return b },
	} {
		scribble(f().Terms)
		if b := f(); !slices.Equal(b.Terms, []int64{4, 6, 7}) {
			t.Errorf("%s: %v", name, b)
		}
	}
}
