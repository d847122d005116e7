package tests

import (
	"math"
	"math/rand"
	"slices"
	"testing"

	"loop.example/g01140/impl"
)

const (
	mostValue     = impl.MaxSemigroup
	mostGenerator = 1000000
)

// slowGenerators returns the generators of a branch by their definition.
func slowGenerators(terms []int64) []int64 {
	e := slowDivisors(terms)
	generators := []int64{terms[0]}
	for i := 1; i < len(terms); i++ {
		v := terms[i]
		if i > 1 {
			v = e[i-2]/e[i-1]*generators[i-1] + terms[i] - terms[i-1]
		}
		generators = append(generators, v)
	}
	return generators
}

// generatorsByMeeting returns the generators of a branch as the numbers in which it meets its
// truncations: e(i - 1) v(i) is the sum of all (e(j - 1) - e(j)) b(j) for j less than i, and of
// e(i - 1) b(i).
func generatorsByMeeting(terms []int64) []int64 {
	e := slowDivisors(terms)
	generators := []int64{terms[0]}
	var sum int64
	for i := 1; i < len(terms); i++ {
		generators = append(generators, (sum+e[i-1]*terms[i])/e[i-1])
		sum += (e[i-1] - e[i]) * terms[i]
	}
	return generators
}

// slowBranchOfGenerators returns the terms of the branch with some generators, naturals in their range,
// by the conditions of the document, or nil.
func slowBranchOfGenerators(list []int64) []int64 {
	f := slowDivisors(list)
	if list[0] > mostN || f[len(f)-1] != 1 || len(list) > 1 && list[0] >= list[1] {
		return nil
	}
	terms := slices.Clone(list)
	for i := 1; i < len(list); i++ {
		if f[i] >= f[i-1] {
			return nil
		}
		if i > 1 {
			if f[i-2]/f[i-1]*list[i-1] >= list[i] {
				return nil
			}
			terms[i] = list[i] - f[i-2]/f[i-1]*list[i-1] + terms[i-1]
		}
		if terms[i] > mostTerm {
			return nil
		}
	}
	return terms
}

// sumsUpTo tells for each v in 0..most whether it is a sum of some generators.
func sumsUpTo(generators []int64, most int64) []bool {
	values := make([]bool, most+1)
	values[0] = true
	for v := int64(1); v <= most; v++ {
		for _, g := range generators {
			values[v] = values[v] || g <= v && values[v-g]
		}
	}
	return values
}

// chosenNumbers returns the places of a list that have a given value.
func chosenNumbers(list []bool, chosen bool) []int64 {
	var numbers []int64
	for v, is := range list {
		if is == chosen {
			numbers = append(numbers, int64(v))
		}
	}
	return numbers
}

// limitBranches returns branches whose conductors are exactly the limit, and 2 less and more, with one
// pair and with two.
func limitBranches(limit int64) [][]int64 {
	var branches [][]int64
	for n := int64(2); n <= mostN; n++ {
		for _, conductor := range []int64{limit - 2, limit, limit + 2} {
			if b := conductor/(n-1) + 1; conductor%(n-1) == 0 && b <= mostTerm && b > n && slowDivisor(n, b) == 1 {
				branches = append(branches, []int64{n, b})
			}
		}
	}
	pairs := 0
	for b := int64(6); b <= mostTerm && pairs < 12; b += 2 {
		for n := int64(4); n < min(b, mostN); n += 2 {
			// The conductor of {n, b, c} is (b - 1) (n - 2) + c - 1.
			for _, conductor := range []int64{limit - 2, limit, limit + 2} {
				c := conductor + 1 - (b-1)*(n-2)
				if slowDivisor(n, b) == 2 && c > b && c <= mostTerm {
					branches = append(branches, []int64{n, b, c})
					pairs++
				}
			}
		}
	}
	return branches
}

// smallBranches returns branches whose sums are soon made: all with small terms, with up to three
// pairs, and some with more.
func smallBranches() [][]int64 {
	return append(branchesWithin(12, 26), longBranch, []int64{16, 24, 28, 30, 31}, []int64{8, 12, 14, 15}, []int64{18, 27, 30, 31}, []int64{24, 36, 40, 42, 43}, []int64{2, 201}, []int64{41, 51}, []int64{64, 65}, []int64{63, 64})
}

// numberFunctions returns the functions of a branch and of a number, which tell nothing beside an
// error.
func numberFunctions() map[string]func(b impl.Branch, v int64) (nothing bool, code int64) {
	return map[string]func(b impl.Branch, v int64) (bool, int64){
		"IsValue":    func(b impl.Branch, v int64) (bool, int64) { ok, code := impl.IsValue(b, v); return !ok, code },
		"ValuesUpTo": func(b impl.Branch, v int64) (bool, int64) { x, code := impl.ValuesUpTo(b, v); return len(x) == 0, code },
		"RepresentationOf": func(b impl.Branch, v int64) (bool, int64) {
			x, code := impl.RepresentationOf(b, v)
			return len(x) == 0, code
		},
	}
}

// listFunctions returns the functions of a branch that return a list of numbers.
func listFunctions() map[string]func(b impl.Branch) ([]int64, int64) {
	return map[string]func(b impl.Branch) ([]int64, int64){
		"GeneratorsOf": impl.GeneratorsOf, "GapsOf": impl.GapsOf, "AperyOf": impl.AperyOf, "SemigroupPolynomial": impl.SemigroupPolynomial,
	}
}

func TestSemigroupConstants(t *testing.T) {
	if mostValue != 20000 {
		t.Errorf("MaxSemigroup is %d", mostValue)
	}
}

// TestInvalidSemigroups checks that all functions refuse what is no branch, also where a number is out
// of its range, and where terms are great enough to exceed a limit.
func TestInvalidSemigroups(t *testing.T) {
	for _, list := range append(invalidBranches(), []int64{64, 1998}, []int64{64, 1984}, []int64{64, 1968, 1998}) {
		b := impl.Branch{Terms: list}
		for name, f := range listFunctions() {
			if x, code := f(b); len(x) != 0 || code != impl.ErrInvalid {
				t.Errorf("%s(%v) = %v, %d", name, list, x, code)
			}
		}
		if x, code := impl.SemigroupBinomials(b); len(x) != 0 || code != impl.ErrInvalid {
			t.Errorf("SemigroupBinomials(%v) = %v, %d", list, x, code)
		}
		if n, code := impl.ConductorOf(b); n != 0 || code != impl.ErrInvalid {
			t.Errorf("ConductorOf(%v) = %d, %d", list, n, code)
		}
		for name, f := range numberFunctions() {
			for _, v := range append(outsideValues(), 0, 1, 6, mostValue) {
				if nothing, code := f(b, v); !nothing || code != impl.ErrInvalid {
					t.Errorf("%s(%v, %d): code %d, or a result beside it", name, list, v, code)
				}
			}
		}
	}
}

// outsideValues returns numbers that are not in 0..MaxSemigroup.
func outsideValues() []int64 {
	return []int64{-1, -2, -4, -6, -64, -mostValue, mostValue + 1, mostValue + 2, 2 * mostValue, 1 << 32, 1<<32 + 4, -1 << 32, math.MaxInt64, math.MaxInt64 - 1, math.MinInt64, math.MinInt64 + 1, math.MinInt64 + 2}
}

// TestValuesOutOfRange checks numbers that are not in 0..MaxSemigroup, and both ends of it.
func TestValuesOutOfRange(t *testing.T) {
	for _, terms := range append(wideBranches()[:40], []int64{1}, []int64{2, 3}, []int64{4, 6, 7}) {
		b := impl.Branch{Terms: terms}
		for name, f := range numberFunctions() {
			for _, v := range outsideValues() {
				if nothing, code := f(b, v); !nothing || code != impl.ErrRange {
					t.Errorf("%s(%v, %d): code %d, or a result beside it", name, terms, v, code)
				}
			}
			if nothing, code := f(b, 0); nothing || code != impl.ErrNone {
				t.Errorf("%s(%v, 0): code %d, or no result", name, terms, code)
			}
			if _, code := f(b, mostValue); code != impl.ErrNone && (name != "RepresentationOf" || code != impl.ErrNotFound) {
				t.Errorf("%s(%v, %d): code %d", name, terms, mostValue, code)
			}
		}
	}
}

// semigroupCase is a branch with what follows from its semigroup.
type semigroupCase struct {
	terms, generators []int64
	conductor         int64
	gaps, apery       []int64
	polynomial        string
	binomials         [][]int64
}

func semigroupCases() []semigroupCase {
	return []semigroupCase{
		{[]int64{1}, []int64{1}, 0, nil, []int64{0}, "1", nil},
		{[]int64{2, 3}, []int64{2, 3}, 2, []int64{1}, []int64{0, 3}, "t^2-t+1", [][]int64{{6, 1}, {3, -1}, {2, -1}, {1, 1}}},
		{[]int64{2, 5}, []int64{2, 5}, 4, []int64{1, 3}, []int64{0, 5}, "t^4-t^3+t^2-t+1", [][]int64{{10, 1}, {5, -1}, {2, -1}, {1, 1}}},
		{[]int64{3, 4}, []int64{3, 4}, 6, []int64{1, 2, 5}, []int64{0, 4, 8}, "t^6-t^5+t^3-t+1", [][]int64{{12, 1}, {4, -1}, {3, -1}, {1, 1}}},
		{[]int64{3, 5}, []int64{3, 5}, 8, []int64{1, 2, 4, 7}, []int64{0, 10, 5}, "t^8-t^7+t^5-t^4+t^3-t+1", [][]int64{{15, 1}, {5, -1}, {3, -1}, {1, 1}}},
		{
			[]int64{4, 6, 7}, []int64{4, 6, 13}, 16, []int64{1, 2, 3, 5, 7, 9, 11, 15}, []int64{0, 13, 6, 19},
			"t^16-t^15+t^12-t^11+t^10-t^9+t^8-t^7+t^6-t^5+t^4-t+1", [][]int64{{12, 1}, {6, -1}, {26, 1}, {13, -1}, {4, -1}, {1, 1}},
		},
		{
			[]int64{4, 6, 9}, []int64{4, 6, 15}, 18, []int64{1, 2, 3, 5, 7, 9, 11, 13, 17}, []int64{0, 21, 6, 15},
			"t^18-t^17+t^14-t^13+t^12-t^11+t^10-t^9+t^8-t^7+t^6-t^5+t^4-t+1", [][]int64{{12, 1}, {6, -1}, {30, 1}, {15, -1}, {4, -1}, {1, 1}},
		},
		{
			[]int64{6, 9, 10}, []int64{6, 9, 19}, 42, []int64{1, 2, 3, 4, 5, 7, 8, 10, 11, 13, 14, 16, 17, 20, 22, 23, 26, 29, 32, 35, 41}, []int64{0, 19, 38, 9, 28, 47},
			"t^42-t^41+t^36-t^35+t^33-t^32+t^30-t^29+t^27-t^26+t^24-t^22+t^21-t^20+t^18-t^16+t^15-t^13+t^12-t^10+t^9-t^7+t^6-t+1",
			[][]int64{{18, 1}, {9, -1}, {57, 1}, {19, -1}, {6, -1}, {1, 1}},
		},
	}
}

func TestSemigroupCases(t *testing.T) {
	for _, c := range semigroupCases() {
		checkBranchKept(t, "a function of chapter 5", c.terms, func(b impl.Branch) { checkSemigroupCase(t, c, b) })
		checkListKept(t, "BranchOfGenerators", c.generators, func(list []int64) {
			checkBranchOfGenerators(t, list, c.terms, impl.ErrNone)
		})
	}
}

// checkSemigroupCase checks all functions of a branch against a case, and writes all over their results.
func checkSemigroupCase(t *testing.T, c semigroupCase, b impl.Branch) {
	t.Helper()
	polynomial, code := impl.ParsePolynomial(c.polynomial)
	if code != impl.ErrNone {
		t.Fatalf("%q is the text of no polynomial: %d", c.polynomial, code)
	}
	want := map[string][]int64{"GeneratorsOf": c.generators, "GapsOf": c.gaps, "AperyOf": c.apery, "SemigroupPolynomial": polynomial}
	for name, f := range listFunctions() {
		x, code := f(b)
		if !slices.Equal(x, want[name]) || code != impl.ErrNone {
			t.Errorf("%s(%v) = %v, %d; wanted %v", name, b, x, code, want[name])
		}
		scribble(x)
	}
	if n, code := impl.ConductorOf(b); n != c.conductor || code != impl.ErrNone {
		t.Errorf("ConductorOf(%v) = %d, %d", b, n, code)
	}
	binomials, code := impl.SemigroupBinomials(b)
	if !sameLists(binomials, c.binomials) || code != impl.ErrNone {
		t.Errorf("SemigroupBinomials(%v) = %v, %d", b, binomials, code)
	}
	for v := range c.conductor + 3 {
		isGap := slices.Contains(c.gaps, v)
		if ok, code := impl.IsValue(b, v); ok == isGap || code != impl.ErrNone {
			t.Errorf("IsValue(%v, %d) = %v, %d", b, v, ok, code)
		}
		values, code := impl.ValuesUpTo(b, v)
		if slices.Contains(values, v) == isGap || code != impl.ErrNone {
			t.Errorf("ValuesUpTo(%v, %d) = %v, %d", b, v, values, code)
		}
		representation, _ := impl.RepresentationOf(b, v)
		scribble(values, representation)
	}
	scribble(binomials...)
}

// checkBranchOfGenerators checks the branch of a list of generators.
func checkBranchOfGenerators(t *testing.T, list, want []int64, wantCode int64) {
	t.Helper()
	b, code := impl.BranchOfGenerators(list)
	if !slices.Equal(b.Terms, want) || code != wantCode {
		t.Errorf("BranchOfGenerators(%v) = %v, %d; wanted %v, %d", list, b, code, want, wantCode)
	}
	scribble(b.Terms)
}

// TestGenerators checks generators by two definitions, and that branches come back from them.
func TestGenerators(t *testing.T) {
	pairs := map[int]int{}
	for _, terms := range slices.Concat(branchesWithin(14, 36), wideBranches(), limitBranches(mostValue)) {
		want := slowGenerators(terms)
		if others := generatorsByMeeting(terms); !slices.Equal(want, others) {
			t.Fatalf("%v has the generators %v and %v", terms, want, others)
		}
		if x, code := impl.GeneratorsOf(impl.Branch{Terms: terms}); !slices.Equal(x, want) || code != impl.ErrNone {
			t.Errorf("GeneratorsOf(%v) = %v, %d; wanted %v", terms, x, code, want)
		}
		checkBranchOfGenerators(t, want, terms, impl.ErrNone)
		pairs[len(terms)-1]++
	}
	if pairs[0] == 0 || pairs[1] < 500 || pairs[2] < 500 || pairs[3] < 100 || pairs[4] < 10 || pairs[5] == 0 || pairs[6] == 0 {
		t.Errorf("numbers of pairs are %v", pairs)
	}
}

func TestBranchOfGenerators(t *testing.T) {
	longGenerators := slowGenerators(longBranch)
	for _, c := range []struct {
		list, want []int64
		code       int64
	}{
		{[]int64{4, 6, 13}, []int64{4, 6, 7}, 0}, {[]int64{2, 3}, []int64{2, 3}, 0}, {[]int64{1}, []int64{1}, 0}, {[]int64{6, 9, 19}, []int64{6, 9, 10}, 0}, {[]int64{12, 18, 38, 115}, []int64{12, 18, 20, 21}, 0},
		// 0, 1, 7, 8 and 9 numbers.
		{nil, nil, impl.ErrRange}, {[]int64{}, nil, impl.ErrRange}, {[]int64{2}, nil, impl.ErrState}, {[]int64{64}, nil, impl.ErrState}, {longGenerators, longBranch, 0},
		{append(slices.Clone(longGenerators), 999999), nil, impl.ErrState}, {append(slices.Clone(longGenerators), 999998, 999999), nil, impl.ErrRange}, {repeated(1, 8), nil, impl.ErrState}, {repeated(1, 9), nil, impl.ErrRange},
		{repeated(64, 8), nil, impl.ErrState}, {repeated(64, 9), nil, impl.ErrRange}, {repeated(2, 100000), nil, impl.ErrRange}, {repeated(mostGenerator, 8), nil, impl.ErrState},
		{[]int64{128, 192, 416, 848, 1712, 3432, 6868, 13737}, nil, impl.ErrState}, {[]int64{524288, 786432, 917504, 983040, 999424, 999936, 999968, 999999}, nil, impl.ErrState},
		// Numbers of 0, 1, 1000000 and 1000001.
		{[]int64{0}, nil, impl.ErrRange}, {[]int64{0, 1}, nil, impl.ErrRange}, {[]int64{2, 0}, nil, impl.ErrRange}, {[]int64{4, 6, 0}, nil, impl.ErrRange}, {[]int64{1, 1}, nil, impl.ErrState}, {[]int64{1, 2}, nil, impl.ErrState}, {[]int64{2, 1}, nil, impl.ErrState},
		{[]int64{4, 6, 1}, nil, impl.ErrState}, {[]int64{mostGenerator}, nil, impl.ErrState}, {[]int64{mostGenerator + 1}, nil, impl.ErrRange}, {[]int64{3, mostGenerator}, nil, impl.ErrState}, {[]int64{3, mostGenerator + 1}, nil, impl.ErrRange},
		{[]int64{4, 6, mostGenerator - 1}, nil, impl.ErrState}, {[]int64{4, 6, mostGenerator}, nil, impl.ErrState}, {[]int64{4, 6, mostGenerator + 1}, nil, impl.ErrRange}, {[]int64{mostGenerator - 1, mostGenerator}, nil, impl.ErrState},
		// v(0) of 64 and 65.
		{[]int64{63, 64}, []int64{63, 64}, 0}, {[]int64{64, 65}, []int64{64, 65}, 0}, {[]int64{65, 66}, nil, impl.ErrState}, {[]int64{65}, nil, impl.ErrState}, {[]int64{66, 99, 199}, nil, impl.ErrState}, {[]int64{1000, 1001}, nil, impl.ErrState},
		// v(0) equal to, or greater than v(1).
		{[]int64{2, 2}, nil, impl.ErrState}, {[]int64{3, 2}, nil, impl.ErrState}, {[]int64{5, 4}, nil, impl.ErrState}, {[]int64{6, 4, 13}, nil, impl.ErrState}, {[]int64{4, 4, 5}, nil, impl.ErrState}, {[]int64{4, 2, 13}, nil, impl.ErrState}, {[]int64{4, 3}, nil, impl.ErrState},
		// A divisor that does not become less, and a last divisor greater than 1.
		{[]int64{2, 4, 5}, nil, impl.ErrState}, {[]int64{4, 8, 9}, nil, impl.ErrState}, {[]int64{4, 6, 14, 29}, nil, impl.ErrState}, {[]int64{2, 3, 7}, nil, impl.ErrState}, {[]int64{4, 6, 13, 27}, nil, impl.ErrState}, {[]int64{12, 18, 42, 127}, nil, impl.ErrState}, {[]int64{3, 4, 13}, nil, impl.ErrState},
		{[]int64{2, 4}, nil, impl.ErrState}, {[]int64{4, 6}, nil, impl.ErrState}, {[]int64{6, 9}, nil, impl.ErrState}, {[]int64{4, 6, 14}, nil, impl.ErrState}, {[]int64{8, 12, 26}, nil, impl.ErrState}, {longGenerators[:6], nil, impl.ErrState},
		// n(i) v(i) equal to v(i + 1), greater and less.
		{[]int64{4, 6, 11}, nil, impl.ErrState}, {[]int64{4, 6, 12}, nil, impl.ErrState}, {[]int64{6, 9, 17}, nil, impl.ErrState}, {[]int64{6, 9, 18}, nil, impl.ErrState}, {[]int64{6, 9, 20}, []int64{6, 9, 11}, 0}, {[]int64{6, 8, 23}, nil, impl.ErrState},
		{[]int64{6, 8, 24}, nil, impl.ErrState}, {[]int64{6, 8, 25}, []int64{6, 8, 9}, 0}, {[]int64{12, 18, 36, 37}, nil, impl.ErrState}, {[]int64{12, 18, 38, 114}, nil, impl.ErrState}, {[]int64{12, 18, 38, 113}, nil, impl.ErrState}, {[]int64{4, 6, 7}, nil, impl.ErrState},
		// Terms of MaxTerm and beyond: for {6, 9} the term is 9 less than the generator, for {4, 6} 6.
		{[]int64{2, 1999}, []int64{2, 1999}, 0}, {[]int64{2, 2001}, nil, impl.ErrState}, {[]int64{3, 2000}, []int64{3, 2000}, 0}, {[]int64{3, 2001}, nil, impl.ErrState}, {[]int64{4, 2001}, nil, impl.ErrState}, {[]int64{63, 2000}, []int64{63, 2000}, 0},
		{[]int64{6, 9, 2009}, []int64{6, 9, 2000}, 0}, {[]int64{6, 9, 2008}, []int64{6, 9, 1999}, 0}, {[]int64{6, 9, 2010}, nil, impl.ErrState}, {[]int64{6, 9, 2011}, nil, impl.ErrState}, {[]int64{6, 9, 2012}, nil, impl.ErrState}, {[]int64{4, 6, 2005}, []int64{4, 6, 1999}, 0}, {[]int64{4, 6, 2007}, nil, impl.ErrState},
		{[]int64{6, 1998, 5996}, nil, impl.ErrState}, {[]int64{6, 1995, 3995}, []int64{6, 1995, 2000}, 0}, {[]int64{6, 1995, 3997}, nil, impl.ErrState}, {[]int64{6, 2001, 4003}, nil, impl.ErrState},
	} {
		checkListKept(t, "BranchOfGenerators", c.list, func(list []int64) { checkBranchOfGenerators(t, list, c.want, c.code) })
		if c.code != impl.ErrRange {
			if slow := slowBranchOfGenerators(c.list); !slices.Equal(slow, c.want) {
				t.Errorf("the conditions tell %v of %v", slow, c.list)
			}
		}
	}
}

// TestGeneratorsOutOfRange checks numbers that are not in 1..1000000 at all places, also in lists that
// no branch has for other reasons.
func TestGeneratorsOutOfRange(t *testing.T) {
	bad := []int64{0, -1, -2, -4, -64, -mostGenerator, mostGenerator + 1, mostGenerator + 2, 1 << 32, 1<<32 + 2, -1 << 32, math.MaxInt64, math.MaxInt64 - 1, math.MinInt64, math.MinInt64 + 1, math.MinInt64 + 2}
	for _, list := range [][]int64{{1}, {2}, {2, 3}, {3, 2}, {4, 6}, {4, 6, 13}, {4, 6, 11}, {65, 66}, {mostGenerator, mostGenerator}, slowGenerators(longBranch), repeated(1, 8), repeated(2, 9)} {
		for i := range list {
			for _, n := range bad {
				wrong := slices.Clone(list)
				wrong[i] = n
				checkBranchOfGenerators(t, wrong, nil, impl.ErrRange)
			}
		}
		for _, n := range bad {
			checkBranchOfGenerators(t, append(slices.Clone(list), n), nil, impl.ErrRange)
			checkBranchOfGenerators(t, repeated(n, 8), nil, impl.ErrRange)
			checkBranchOfGenerators(t, repeated(n, 9), nil, impl.ErrRange)
		}
	}
}

// TestGeneratorLists checks all short lists of small numbers, random lists, and generators with a number
// changed, left out or put in, by the conditions of the document.
func TestGeneratorLists(t *testing.T) {
	codes := map[int64]int{}
	check := func(list []int64) {
		t.Helper()
		var want []int64
		wantCode := int64(impl.ErrNone)
		if len(list) == 0 || len(list) > 8 || slices.Min(list) < 1 || slices.Max(list) > mostGenerator {
			wantCode = impl.ErrRange
		} else if want = slowBranchOfGenerators(list); want == nil {
			wantCode = impl.ErrState
		}
		codes[wantCode]++
		checkBranchOfGenerators(t, list, want, wantCode)
	}
	allLists(3, 0, 33, check)
	r := rand.New(rand.NewSource(51))
	for _, terms := range slices.Concat(branchesWithin(8, 18), wideBranches()[:400], [][]int64{longBranch, {12, 18, 20, 21}, {64, 96, 112, 120, 124, 126, 1999}}) {
		list := slowGenerators(terms)
		for range 4 {
			k := r.Intn(len(list))
			check(slices.Insert(slices.Clone(list), k, 1+r.Int63n(2*list[k])))
			check(slices.Delete(slices.Clone(list), k, k+1))
			check(slices.Replace(slices.Clone(list), k, k+1, list[k]+1))
			check(slices.Replace(slices.Clone(list), k, k+1, list[k]-1))
			check(slices.Replace(slices.Clone(list), k, k+1, list[k]+terms[0]))
			check(slices.Replace(slices.Clone(list), k, k+1, list[k]-terms[0]))
			check(slices.Replace(slices.Clone(list), k, k+1, 1+r.Int63n(mostTerm+200)))
			check(append(slices.Clone(list), list[len(list)-1]*2+1+r.Int63n(50)))
		}
	}
	if codes[impl.ErrNone] < 3000 || codes[impl.ErrState] < 30000 || codes[impl.ErrRange] < 3000 {
		t.Errorf("codes are %v", codes)
	}
}

// TestConductors checks conductors by the Milnor number and the delta invariant of chapter 4, and by sums
// of generators: all numbers from the conductor on are values, and the one before it is none.
func TestConductors(t *testing.T) {
	for _, terms := range slices.Concat(smallBranches(), wideBranches(), limitBranches(mostValue), limitBranches(impl.MaxDegree)) {
		b := impl.Branch{Terms: terms}
		n, code := impl.ConductorOf(b)
		if n != milnorByExponents(terms) || code != impl.ErrNone {
			t.Errorf("ConductorOf(%v) = %d, %d; wanted %d", terms, n, code, milnorByExponents(terms))
		}
		milnor, _ := impl.MilnorOfBranch(b)
		delta, _ := impl.DeltaInvariant(b)
		if n != milnor || n != 2*delta {
			t.Errorf("ConductorOf(%v) = %d, with the Milnor number %d and the delta invariant %d", terms, n, milnor, delta)
		}
	}
	for _, terms := range append(smallBranches(), wideBranches()[:60]...) {
		n, _ := impl.ConductorOf(impl.Branch{Terms: terms})
		values := sumsUpTo(slowGenerators(terms), n+terms[0])
		if n > 0 && values[n-1] || slices.Contains(values[n:], false) {
			t.Errorf("ConductorOf(%v) = %d", terms, n)
		}
	}
	if n, code := impl.ConductorOf(branch(64, 1999)); n != 63*1998 || code != impl.ErrNone {
		t.Errorf("ConductorOf(64;1999) = %d, %d", n, code)
	}
}

// TestValues checks values, gaps and representations of small branches by sums of generators.
func TestValues(t *testing.T) {
	for _, terms := range smallBranches() {
		b := impl.Branch{Terms: terms}
		generators := slowGenerators(terms)
		conductor := milnorByExponents(terms)
		values := sumsUpTo(generators, min(conductor+2*generators[len(generators)-1]+5, mostValue))
		for v, want := range values {
			checkValue(t, terms, int64(v), want)
		}
		for _, most := range []int64{0, 1, terms[0] - 1, terms[0], generators[len(generators)-1], max(conductor-1, 0), conductor, conductor + 1, int64(len(values) - 1)} {
			want := chosenNumbers(values[:most+1], true)
			if x, code := impl.ValuesUpTo(b, most); !slices.Equal(x, want) || code != impl.ErrNone {
				t.Errorf("ValuesUpTo(%v, %d) = %v, %d; wanted %v", terms, most, x, code, want)
			}
		}
		want := chosenNumbers(values, false)
		if x, code := impl.GapsOf(b); !slices.Equal(x, want) || code != impl.ErrNone {
			t.Errorf("GapsOf(%v) = %v, %d; wanted %v", terms, x, code, want)
		}
	}
}

// checkValue checks IsValue, and that RepresentationOf makes the value, with coefficients in their
// ranges.
func checkValue(t *testing.T, terms []int64, v int64, want bool) {
	t.Helper()
	b := impl.Branch{Terms: terms}
	if ok, code := impl.IsValue(b, v); ok != want || code != impl.ErrNone {
		t.Errorf("IsValue(%v, %d) = %v, %d; wanted %v", terms, v, ok, code, want)
	}
	list, code := impl.RepresentationOf(b, v)
	if !want {
		if len(list) != 0 || code != impl.ErrNotFound {
			t.Errorf("RepresentationOf(%v, %d) = %v, %d; wanted none", terms, v, list, code)
		}
		return
	}
	if code != impl.ErrNone || len(list) != len(terms) || slices.Min(list) < 0 {
		t.Errorf("RepresentationOf(%v, %d) = %v, %d", terms, v, list, code)
		return
	}
	e := slowDivisors(terms)
	var sum int64
	for i, g := range slowGenerators(terms) {
		sum += list[i] * g
		if i > 0 && list[i] >= e[i-1]/e[i] {
			t.Errorf("RepresentationOf(%v, %d) = %v: the number at %d is too great", terms, v, list, i)
		}
	}
	if sum != v {
		t.Errorf("RepresentationOf(%v, %d) = %v makes %d", terms, v, list, sum)
	}
}

// TestWideValues checks values up to MaxSemigroup of branches up to the limits by sums of generators.
func TestWideValues(t *testing.T) {
	r := rand.New(rand.NewSource(52))
	for _, terms := range slices.Concat(wideBranches()[:150], limitBranches(mostValue), [][]int64{{1}, {2, 3}}) {
		b := impl.Branch{Terms: terms}
		generators := slowGenerators(terms)
		conductor := milnorByExponents(terms)
		values := sumsUpTo(generators, mostValue)
		numbers := []int64{0, 1, mostValue - 1, mostValue, conductor - 2, conductor - 1, conductor, conductor + 1}
		for _, g := range generators {
			numbers = append(numbers, g-1, g, g+1, 2*g, g+terms[0])
		}
		for range 40 {
			numbers = append(numbers, r.Int63n(mostValue+1), r.Int63n(min(conductor, mostValue)+1))
		}
		for _, v := range numbers {
			if v >= 0 && v <= mostValue {
				checkValue(t, terms, v, values[v])
			}
		}
		for _, most := range []int64{mostValue, mostValue - 1, r.Int63n(mostValue)} {
			if x, code := impl.ValuesUpTo(b, most); !slices.Equal(x, chosenNumbers(values[:most+1], true)) || code != impl.ErrNone {
				t.Errorf("ValuesUpTo(%v, %d) has %d values, code %d", terms, most, len(x), code)
			}
		}
		want, wantCode := chosenNumbers(values, false), int64(impl.ErrNone)
		if conductor > mostValue {
			want, wantCode = nil, impl.ErrLimit
		}
		if x, code := impl.GapsOf(b); !slices.Equal(x, want) || code != wantCode {
			t.Errorf("GapsOf(%v) has %d gaps, code %d", terms, len(x), code)
		}
	}
}

// TestRepresentations checks some representations, and that no other list of numbers in their ranges makes
// a value.
func TestRepresentations(t *testing.T) {
	for _, c := range []struct {
		terms []int64
		v     int64
		want  []int64
		code  int64
	}{
		{[]int64{4, 6, 7}, 19, []int64{0, 1, 1}, 0}, {[]int64{4, 6, 7}, 0, []int64{0, 0, 0}, 0}, {[]int64{4, 6, 7}, 12, []int64{3, 0, 0}, 0}, {[]int64{4, 6, 7}, 26, []int64{5, 1, 0}, 0}, {[]int64{4, 6, 7}, 13, []int64{0, 0, 1}, 0},
		{[]int64{4, 6, 7}, 6, []int64{0, 1, 0}, 0}, {[]int64{4, 6, 7}, 4, []int64{1, 0, 0}, 0}, {[]int64{4, 6, 7}, 15, nil, impl.ErrNotFound}, {[]int64{4, 6, 7}, 16, []int64{4, 0, 0}, 0}, {[]int64{4, 6, 7}, 20000, []int64{5000, 0, 0}, 0},
		{[]int64{1}, 0, []int64{0}, 0}, {[]int64{1}, 20000, []int64{20000}, 0}, {[]int64{1}, 5, []int64{5}, 0}, {[]int64{2, 3}, 1, nil, impl.ErrNotFound}, {[]int64{2, 3}, 6, []int64{3, 0}, 0}, {[]int64{2, 3}, 19999, []int64{9998, 1}, 0},
		{[]int64{64, 1999}, 1999, []int64{0, 1}, 0}, {[]int64{64, 1999}, 2000, nil, impl.ErrNotFound}, {[]int64{64, 1999}, 19990, []int64{0, 10}, 0}, {[]int64{64, 1999}, 19993, nil, impl.ErrNotFound}, {[]int64{12, 18, 20, 21}, 209, []int64{0, 1, 2, 1}, 0},
	} {
		checkBranchKept(t, "RepresentationOf", c.terms, func(b impl.Branch) {
			if x, code := impl.RepresentationOf(b, c.v); !slices.Equal(x, c.want) || code != c.code {
				t.Errorf("RepresentationOf(%v, %d) = %v, %d; wanted %v, %d", b, c.v, x, code, c.want, c.code)
			}
		})
	}
	for _, terms := range branchesWithin(9, 16) {
		generators, e := slowGenerators(terms), slowDivisors(terms)
		allLists(len(terms), 0, 8, func(list []int64) {
			var sum int64
			for i := range list {
				if i > 0 && list[i] >= e[i-1]/e[i] {
					return
				}
				sum += list[i] * generators[i]
			}
			if x, code := impl.RepresentationOf(impl.Branch{Terms: terms}, sum); len(list) == len(terms) && (!slices.Equal(x, list) || code != impl.ErrNone) {
				t.Errorf("RepresentationOf(%v, %d) = %v, %d; wanted %v", terms, sum, x, code, list)
			}
		})
	}
}

// TestValuesTurnedRound checks the first part of promise 5: v is a value exactly if the conductor less 1
// less v is none; and that there are as many gaps as the delta invariant tells.
func TestValuesTurnedRound(t *testing.T) {
	branches := 0
	for _, terms := range slices.Concat(smallBranches(), wideBranches()[:60], limitBranches(mostValue)[:20]) {
		b := impl.Branch{Terms: terms}
		conductor, _ := impl.ConductorOf(b)
		if conductor > mostValue {
			continue
		}
		branches++
		for v := range conductor {
			is, _ := impl.IsValue(b, v)
			turned, _ := impl.IsValue(b, conductor-1-v)
			if is == turned {
				t.Errorf("IsValue(%v, v) is %v for %d and for %d", terms, is, v, conductor-1-v)
			}
		}
		gaps, _ := impl.GapsOf(b)
		delta, _ := impl.DeltaInvariant(b)
		if int64(len(gaps)) != delta {
			t.Errorf("GapsOf(%v) has %d gaps, the delta invariant is %d", terms, len(gaps), delta)
		}
		values, _ := impl.ValuesUpTo(b, conductor)
		all := slices.Sorted(slices.Values(append(gaps, values...)))
		for i, v := range all {
			if v != int64(i) || int64(len(all)) != conductor+1 {
				t.Fatalf("gaps and values of %v up to %d are %v", terms, conductor, all)
			}
		}
	}
	if branches < 400 {
		t.Errorf("only %d branches have a small conductor", branches)
	}
}

// TestGapLimits checks conductors of exactly MaxSemigroup and MaxDegree, below and above.
func TestGapLimits(t *testing.T) {
	for _, limit := range []int64{mostValue, impl.MaxDegree} {
		lengths := map[int]int{}
		found := map[int64]int{}
		for _, terms := range limitBranches(limit) {
			b := impl.Branch{Terms: terms}
			conductor := milnorByExponents(terms)
			found[conductor-limit]++
			lengths[len(terms)]++
			gaps, gapsCode := impl.GapsOf(b)
			if over := conductor > mostValue; (gapsCode == impl.ErrLimit) != over || over && len(gaps) > 0 || !over && (gapsCode != impl.ErrNone || int64(len(gaps)) != conductor/2 || gaps[len(gaps)-1] != conductor-1) {
				t.Errorf("GapsOf(%v) has %d gaps, code %d, for the conductor %d", terms, len(gaps), gapsCode, conductor)
			}
			p, code := impl.SemigroupPolynomial(b)
			if over := conductor > impl.MaxDegree; (code == impl.ErrLimit) != over || over && len(p) > 0 || !over && (code != impl.ErrNone || int64(len(p)) != conductor+1 || p[conductor] != 1) {
				t.Errorf("SemigroupPolynomial(%v) has %d coefficients, code %d, for the conductor %d", terms, len(p), code, conductor)
			}
		}
		if found[-2] == 0 || found[0] == 0 || found[2] == 0 || len(found) != 3 || lengths[2] < 3 || lengths[3] < 3 {
			t.Errorf("conductors next to %d are %v, for lists of %v terms", limit, found, lengths)
		}
	}
	for _, c := range []struct {
		terms            []int64
		conductor        int64
		gaps, polynomial int64
	}{
		{[]int64{51, 401}, 20000, 0, impl.ErrLimit}, {[]int64{22, 904, 1941}, 20000, 0, impl.ErrLimit}, {[]int64{22, 904, 1939}, 19998, 0, impl.ErrLimit}, {[]int64{22, 904, 1943}, 20002, impl.ErrLimit, impl.ErrLimit},
		{[]int64{41, 51}, 2000, 0, 0}, {[]int64{3, 1001}, 2000, 0, 0}, {[]int64{4, 6, 1991}, 2000, 0, 0}, {[]int64{4, 6, 1989}, 1998, 0, 0}, {[]int64{4, 6, 1993}, 2002, 0, impl.ErrLimit}, {[]int64{2, 1999}, 1998, 0, 0},
		{[]int64{64, 1999}, 125874, impl.ErrLimit, impl.ErrLimit}, {[]int64{63, 2000}, 123938, impl.ErrLimit, impl.ErrLimit},
	} {
		b := impl.Branch{Terms: c.terms}
		if n, code := impl.ConductorOf(b); n != c.conductor || code != impl.ErrNone {
			t.Errorf("ConductorOf(%v) = %d, %d", c.terms, n, code)
		}
		if x, code := impl.GapsOf(b); code != c.gaps || (len(x) == 0) != (c.gaps != impl.ErrNone) {
			t.Errorf("GapsOf(%v) has %d gaps, code %d", c.terms, len(x), code)
		}
		if x, code := impl.SemigroupPolynomial(b); code != c.polynomial || (len(x) == 0) != (c.polynomial != impl.ErrNone) {
			t.Errorf("SemigroupPolynomial(%v) has %d coefficients, code %d", c.terms, len(x), code)
		}
	}
}

// TestApery checks Apery lists by sums of generators, also beyond MaxSemigroup.
func TestApery(t *testing.T) {
	for _, terms := range slices.Concat(smallBranches(), wideBranches()[:60], [][]int64{{64, 1999}, {63, 2000}, {64, 1952, 1968, 1976, 1980, 1982, 1983}}) {
		n := terms[0]
		values := sumsUpTo(slowGenerators(terms), milnorByExponents(terms)+n)
		want := repeated(-1, int(n))
		for v, is := range values {
			if r := int64(v) % n; is && want[r] < 0 {
				want[r] = int64(v)
			}
		}
		x, code := impl.AperyOf(impl.Branch{Terms: terms})
		if !slices.Equal(x, want) || code != impl.ErrNone {
			t.Errorf("AperyOf(%v) = %v, %d; wanted %v", terms, x, code, want)
		}
		if most := slices.Max(x); most-n+1 != milnorByExponents(terms) {
			t.Errorf("AperyOf(%v) = %v tells another conductor", terms, x)
		}
	}
}

// timesBinomial returns the product of p and the binomial of k, for any degree.
func timesBinomial(p []int64, k int64) []int64 {
	product := make([]int64, int64(len(p))+k)
	for i, c := range p {
		product[i] -= c
		product[int64(i)+k] += c
	}
	return product
}

// TestSemigroupPolynomials checks polynomials by sums of generators, and the last part of promise 5: that
// they are the products of the binomials.
func TestSemigroupPolynomials(t *testing.T) {
	products := 0
	for _, terms := range slices.Concat(smallBranches(), wideBranches()[:400], limitBranches(impl.MaxDegree)) {
		b := impl.Branch{Terms: terms}
		conductor := milnorByExponents(terms)
		if conductor > impl.MaxDegree {
			continue
		}
		p, code := impl.SemigroupPolynomial(b)
		want := make([]int64, conductor+1)
		for v, is := range sumsUpTo(slowGenerators(terms), conductor) {
			if is {
				want[v]++
			}
			if is && int64(v) < conductor {
				want[v+1]--
			}
		}
		if !slices.Equal(p, want) || code != impl.ErrNone {
			t.Errorf("SemigroupPolynomial(%v) = %v, %d; wanted %v", terms, p, code, want)
		}
		if symmetric, code := impl.IsSymmetricPolynomial(p); !symmetric || code != impl.ErrNone {
			t.Errorf("SemigroupPolynomial(%v) = %v is not symmetric, %d", terms, p, code)
		}
		list, _ := impl.SemigroupBinomials(b)
		top, bottom := []int64{1}, p
		for _, binomial := range list {
			if binomial[1] > 0 {
				top = timesBinomial(top, binomial[0])
			} else {
				bottom = timesBinomial(bottom, binomial[0])
			}
		}
		if !slices.Equal(top, bottom) {
			t.Errorf("SemigroupPolynomial(%v) is not the product of %v", terms, list)
		}
		if product, code := impl.BinomialProduct(list); code == impl.ErrNone {
			products++
			if !slices.Equal(product, p) {
				t.Errorf("BinomialProduct(%v) = %v, SemigroupPolynomial(%v) = %v", list, product, terms, p)
			}
		}
	}
	if products < 400 {
		t.Errorf("only %d binomial products have no errors", products)
	}
}

// TestSemigroupBinomials checks binomials by their definition, also beyond MaxDegree.
func TestSemigroupBinomials(t *testing.T) {
	for _, terms := range slices.Concat(smallBranches(), wideBranches()) {
		var want [][]int64
		generators, e := slowGenerators(terms), slowDivisors(terms)
		for i := 1; i < len(terms); i++ {
			want = append(want, []int64{e[i-1] / e[i] * generators[i], 1}, []int64{generators[i], -1})
		}
		if len(terms) > 1 {
			want = append(want, []int64{terms[0], -1}, []int64{1, 1})
		}
		if x, code := impl.SemigroupBinomials(impl.Branch{Terms: terms}); !sameLists(x, want) || code != impl.ErrNone {
			t.Errorf("SemigroupBinomials(%v) = %v, %d; wanted %v", terms, x, code, want)
		}
	}
	for _, c := range []struct {
		terms []int64
		want  [][]int64
	}{
		{[]int64{1}, nil}, {[]int64{64, 1999}, [][]int64{{127936, 1}, {1999, -1}, {64, -1}, {1, 1}}},
		{[]int64{12, 18, 20, 21}, [][]int64{{36, 1}, {18, -1}, {114, 1}, {38, -1}, {230, 1}, {115, -1}, {12, -1}, {1, 1}}},
	} {
		checkBranchKept(t, "SemigroupBinomials", c.terms, func(b impl.Branch) {
			if x, code := impl.SemigroupBinomials(b); !sameLists(x, c.want) || code != impl.ErrNone {
				t.Errorf("SemigroupBinomials(%v) = %v, %d; wanted %v", b, x, code, c.want)
			}
		})
	}
}

const fieldPrime = 1000003

// ordersUpTo tells for each v in 0..most whether it is the order of a polynomial in x and y along the
// parametrisation of a branch, by elimination among the monomials modulo a prime.
func ordersUpTo(terms []int64, most int64) []bool {
	rows := make([][]int64, most+1)
	x, y := make([]int64, most+1), make([]int64, most+1)
	for i, b := range terms {
		if i == 0 && b <= most {
			x[b] = 1
		} else if b <= most {
			// Coefficients other than 1 keep the monomials from being too special.
			y[b] = int64(i + 1)
		}
	}
	power := make([]int64, most+1)
	power[0] = 1
	for slices.Max(power) > 0 {
		for row := power; slices.Max(row) > 0; row = timesSeries(row, y) {
			eliminate(rows, slices.Clone(row))
		}
		power = timesSeries(power, x)
	}
	orders := make([]bool, most+1)
	for v, row := range rows {
		orders[v] = row != nil
	}
	return orders
}

// timesSeries returns the product of two series, cut off and modulo the prime.
func timesSeries(p, q []int64) []int64 {
	product := make([]int64, len(p))
	for i, c := range p {
		for k := 0; c != 0 && i+k < len(product); k++ {
			product[i+k] = (product[i+k] + c*q[k]) % fieldPrime
		}
	}
	return product
}

// eliminate puts what is left of a row at the place of its order, if it is not 0.
func eliminate(rows [][]int64, row []int64) {
	for v := range row {
		if row[v] == 0 {
			continue
		}
		if rows[v] == nil {
			rows[v] = timesSeries(row, append([]int64{inverseOf(row[v])}, repeated(0, len(row)-1)...))
			return
		}
		c := row[v]
		for i := range row {
			row[i] = (row[i] + (fieldPrime-c)*rows[v][i]) % fieldPrime
		}
	}
}

// inverseOf returns the inverse of c modulo the prime.
func inverseOf(c int64) int64 {
	inverse := int64(1)
	for k := fieldPrime - 2; k > 0; k /= 2 {
		if k%2 == 1 {
			inverse = inverse * c % fieldPrime
		}
		c = c * c % fieldPrime
	}
	return inverse
}

// TestValuesAreOrders checks that values are the orders of all functions along a parametrisation.
func TestValuesAreOrders(t *testing.T) {
	for _, terms := range append(branchesWithin(6, 11), []int64{4, 6, 11}, []int64{4, 10, 11}, []int64{6, 9, 13}, []int64{6, 8, 11}, []int64{8, 12, 14, 15}) {
		most := milnorByExponents(terms) + 3
		want := chosenNumbers(ordersUpTo(terms, most), true)
		if x, code := impl.ValuesUpTo(impl.Branch{Terms: terms}, most); !slices.Equal(x, want) || code != impl.ErrNone {
			t.Errorf("ValuesUpTo(%v, %d) = %v, %d; wanted %v", terms, most, x, code, want)
		}
	}
}

// TestSemigroupResultsAreNew checks that results share no memory with arguments, with other results, or
// with those of calls before.
func TestSemigroupResultsAreNew(t *testing.T) {
	b := branch(12, 18, 20, 21)
	want := [][]int64{{36, 1}, {18, -1}, {114, 1}, {38, -1}, {230, 1}, {115, -1}, {12, -1}, {1, 1}}
	lists, _ := impl.SemigroupBinomials(b)
	for i := range lists {
		scribble(lists[i])
		_ = append(lists[i], -98)
		for k := i + 1; k < len(lists); k++ {
			if !slices.Equal(lists[k], want[k]) {
				t.Errorf("SemigroupBinomials: list %d shares memory with list %d: %v", i, k, lists)
			}
		}
	}
	if again, _ := impl.SemigroupBinomials(b); !sameLists(again, want) {
		t.Errorf("SemigroupBinomials: results of several calls share memory: %v", again)
	}
	functions := listFunctions()
	functions["ValuesUpTo"] = func(b impl.Branch) ([]int64, int64) { return impl.ValuesUpTo(b, 100) }
	functions["RepresentationOf"] = func(b impl.Branch) ([]int64, int64) { return impl.RepresentationOf(b, 209) }
	for name, f := range functions {
		first, _ := f(b)
		kept := slices.Clone(first)
		scribble(first)
		if x, _ := f(b); !slices.Equal(x, kept) || !slices.Equal(b.Terms, []int64{12, 18, 20, 21}) {
			t.Errorf("%s: %v, then %v", name, kept, x)
		}
	}
	list := []int64{1}
	smooth, _ := impl.BranchOfGenerators(list)
	scribble(smooth.Terms)
	generators, _ := impl.GeneratorsOf(branch(list...))
	scribble(generators)
	if list[0] != 1 {
		t.Errorf("the generators of a smooth branch share memory with it")
	}
}
