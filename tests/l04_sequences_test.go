package tests

import (
	"math"
	"math/rand"
	"slices"
	"testing"

	"loop.example/g01140/impl"
)

const mostPoints = impl.MaxPoints

// edgeBranches returns branches whose sequences have 398 to 402 numbers, and some with far more.
func edgeBranches() [][]int64 {
	branches := [][]int64{
		{2, 793}, {2, 795}, {2, 797}, {2, 799}, {2, 801}, {2, 1999}, {3, 1189}, {3, 1190}, {3, 1192}, {3, 1193}, {3, 1195}, {3, 2000}, {4, 1999}, {5, 1998}, {5, 1999},
		{4, 6, 797}, {4, 6, 799}, {4, 6, 801}, {4, 1998, 1999}, {4, 6, 1999}, {6, 9, 2000}, {6, 8, 1999}, {8, 12, 14, 1999},
	}
	for n := int64(2); n <= 6; n++ {
		for b := n*mostPoints - 20*n; b <= min(n*mostPoints, mostTerm); b++ {
			if slowDivisor(n, b) > 1 {
				continue
			}
			if count := len(slowSequence([]int64{n, b})); count >= mostPoints-2 && count <= mostPoints+2 {
				branches = append(branches, []int64{n, b})
			}
		}
	}
	return branches
}

// sequenceBranches returns all branches with small terms, and branches up to the limits.
func sequenceBranches() [][]int64 {
	return slices.Concat(branchesWithin(14, 36), wideBranches(), edgeBranches())
}

// slowBlowUp returns the strict transform of a branch by its exponents: x = t^n and y divided by x.
func slowBlowUp(terms []int64) []int64 {
	n := terms[0]
	if n == 1 {
		return terms
	}
	blown := []int64{n}
	for _, b := range terms[1:] {
		blown = append(blown, b-n)
	}
	if blown[1] > n {
		return blown
	}
	turned := []int64{blown[1], n}
	if n%blown[1] == 0 {
		turned = turned[:1]
	}
	for _, b := range blown[2:] {
		turned = append(turned, b+n-blown[1])
	}
	return turned
}

// slowSequence returns the sequence of a branch by blowing it up until it is smooth, with as many ones
// as the last greater number is a sum of.
func slowSequence(terms []int64) []int64 {
	var list []int64
	ones := int64(1)
	for terms[0] > 1 {
		ones = terms[0]
		list = append(list, ones)
		terms = slowBlowUp(terms)
	}
	return append(list, repeated(1, int(ones))...)
}

// slowRuns returns the numbers that the runs of a characteristic make, turned or not, by subtracting
// instead of dividing.
func slowRuns(terms []int64) []int64 {
	var list []int64
	divisors := slowDivisors(terms)
	for i := 1; i < len(terms); i++ {
		a, b := terms[i], divisors[i-1]
		if i > 1 {
			a -= terms[i-1]
		}
		for b > 0 {
			for a >= b {
				list = append(list, b)
				a -= b
			}
			a, b = b, a
		}
	}
	return list
}

// slowBranchOfSequence returns the branch of a list of naturals, or nil, by undoing blow ups from the
// last one to the first one.
func slowBranchOfSequence(list []int64) []int64 {
	greater := slices.IndexFunc(list, func(m int64) bool { return m == 1 })
	if greater < 0 || slices.Max(list[greater:]) > 1 || greater > 0 && int64(len(list)-greater) < list[greater-1] {
		return nil
	}
	terms := []int64{1}
	for i := greater - 1; i >= 0; i-- {
		if terms = slowBlowDown(list[i], terms); terms == nil {
			return nil
		}
	}
	if slices.Max(terms) > mostTerm {
		return nil
	}
	return terms
}

// slowBlowDown returns the branch with the multiplicity n and a strict transform, or nil.
func slowBlowDown(n int64, terms []int64) []int64 {
	m := terms[0]
	down := []int64{n}
	switch {
	case n < m:
		return nil
	case n > m && n%m == 0:
		down = append(down, n+m)
		for _, b := range terms[1:] {
			down = append(down, b+m)
		}
	case n > m:
		// The turned characteristic is n, m, .., so that the next exponent is n.
		if len(terms) < 2 || terms[1] != n {
			return nil
		}
		down = append(down, n+m)
		for _, b := range terms[2:] {
			down = append(down, b+m)
		}
	default:
		for _, b := range terms[1:] {
			down = append(down, b+n)
		}
	}
	if !slices.IsSorted(down) || len(slices.Compact(slices.Clone(down))) != len(down) || !slowDescends(down) {
		return nil
	}
	return down
}

// slowGaps counts the gaps of the semigroup of a branch (chapter 5).
func slowGaps(terms []int64) int64 {
	generators := slowGenerators(terms)
	least := generators[0]
	values := []bool{true}
	var gaps int64
	// From so many values side by side on, all numbers are values.
	for v, row := int64(1), int64(1); row < least; v++ {
		values = append(values, slices.ContainsFunc(generators, func(g int64) bool { return g <= v && values[v-g] }))
		row++
		if !values[v] {
			gaps++
			row = 0
		}
	}
	return gaps
}

// slowDelta adds the m (m - 1) / 2 over a list.
func slowDelta(list []int64) int64 {
	var delta int64
	for _, m := range list {
		delta += m * (m - 1) / 2
	}
	return delta
}

// countGreater counts the numbers of a list that are greater than 1.
func countGreater(list []int64) int64 {
	var count int64
	for _, m := range list {
		if m > 1 {
			count++
		}
	}
	return count
}

func TestSequenceConstants(t *testing.T) {
	if mostPoints != 400 {
		t.Errorf("MaxPoints is %d", mostPoints)
	}
}

// TestInvalidSequences checks that all functions refuse what is no branch, also where a number is out
// of its range.
func TestInvalidSequences(t *testing.T) {
	for _, list := range invalidBranches() {
		b := impl.Branch{Terms: list}
		if x, code := impl.SequenceOf(b); len(x) != 0 || code != impl.ErrInvalid {
			t.Errorf("SequenceOf(%v) = %v, %d", list, x, code)
		}
		for _, more := range []int64{0, 1, mostPoints, mostPoints + 1, -1, math.MaxInt64, math.MinInt64} {
			if x, code := impl.LongSequence(b, more); len(x) != 0 || code != impl.ErrInvalid {
				t.Errorf("LongSequence(%v, %d) = %v, %d", list, more, x, code)
			}
		}
		if x, code := impl.BlocksOf(b); len(x) != 0 || code != impl.ErrInvalid {
			t.Errorf("BlocksOf(%v) = %v, %d", list, x, code)
		}
		if c, code := impl.StrictTransform(b); len(c.Terms) != 0 || code != impl.ErrInvalid {
			t.Errorf("StrictTransform(%v) = %v, %d", list, c, code)
		}
		for name, f := range countFunctions() {
			if n, code := f(b); n != 0 || code != impl.ErrInvalid {
				t.Errorf("%s(%v) = %d, %d", name, list, n, code)
			}
		}
	}
}

// countFunctions returns the functions that calculate a number of the sequence of a branch.
func countFunctions() map[string]func(b impl.Branch) (int64, int64) {
	return map[string]func(b impl.Branch) (int64, int64){
		"CountBranchPoints": impl.CountBranchPoints, "DeltaInvariant": impl.DeltaInvariant, "MilnorOfBranch": impl.MilnorOfBranch, "CountBlowUps": impl.CountBlowUps,
	}
}

// sequenceCase is a branch with what follows from its sequence.
type sequenceCase struct {
	terms, sequence, transform []int64
	blocks                     [][]int64
	delta, blowUps             int64
}

func sequenceCases() []sequenceCase {
	return []sequenceCase{
		{[]int64{1}, []int64{1}, []int64{1}, [][]int64{{1, 1}}, 0, 0},
		{[]int64{2, 3}, []int64{2, 1, 1}, []int64{1}, [][]int64{{2, 1}, {1, 2}}, 1, 1},
		{[]int64{2, 5}, []int64{2, 2, 1, 1}, []int64{2, 3}, [][]int64{{2, 2}, {1, 2}}, 2, 2},
		{[]int64{3, 4}, []int64{3, 1, 1, 1}, []int64{1}, [][]int64{{3, 1}, {1, 3}}, 3, 1},
		{[]int64{3, 5}, []int64{3, 2, 1, 1}, []int64{2, 3}, [][]int64{{3, 1}, {2, 1}, {1, 2}}, 4, 2},
		{[]int64{5, 7}, []int64{5, 2, 2, 1, 1}, []int64{2, 5}, [][]int64{{5, 1}, {2, 2}, {1, 2}}, 12, 3},
		// The first step of the second run has q = 0, and q = 1.
		{[]int64{4, 6, 7}, []int64{4, 2, 2, 1, 1}, []int64{2, 5}, [][]int64{{4, 1}, {2, 2}, {1, 2}}, 8, 3},
		{[]int64{4, 6, 9}, []int64{4, 2, 2, 2, 1, 1}, []int64{2, 7}, [][]int64{{4, 1}, {2, 3}, {1, 2}}, 9, 4},
		{[]int64{6, 9, 10}, []int64{6, 3, 3, 1, 1, 1}, []int64{3, 7}, [][]int64{{6, 1}, {3, 2}, {1, 3}}, 21, 3},
		{[]int64{6, 9, 11}, []int64{6, 3, 3, 2, 1, 1}, []int64{3, 8}, [][]int64{{6, 1}, {3, 2}, {2, 1}, {1, 2}}, 22, 4},
		{[]int64{6, 10, 11}, []int64{6, 4, 2, 2, 1, 1}, []int64{4, 6, 7}, [][]int64{{6, 1}, {4, 1}, {2, 2}, {1, 2}}, 23, 4},
		{[]int64{12, 18, 20, 21}, []int64{12, 6, 6, 2, 2, 2, 1, 1}, []int64{6, 14, 15}, [][]int64{{12, 1}, {6, 2}, {2, 3}, {1, 2}}, 99, 6},
		{longBranch, []int64{64, 32, 32, 16, 16, 8, 8, 4, 4, 2, 2, 1, 1}, []int64{32, 80, 88, 92, 94, 95}, [][]int64{{64, 1}, {32, 2}, {16, 2}, {8, 2}, {4, 2}, {2, 2}, {1, 2}}, 3318, 11},
		{[]int64{64, 65}, append([]int64{64}, repeated(1, 64)...), []int64{1}, [][]int64{{64, 1}, {1, 64}}, 2016, 1},
		{[]int64{63, 2000}, slices.Concat(repeated(63, 31), []int64{47, 16, 16, 15}, repeated(1, 15)), []int64{63, 1937}, [][]int64{{63, 31}, {47, 1}, {16, 2}, {15, 1}, {1, 15}}, 61969, 35},
	}
}

func TestSequenceCases(t *testing.T) {
	for _, c := range sequenceCases() {
		checkBranchKept(t, "a function of chapter 4", c.terms, func(b impl.Branch) { checkSequenceCase(t, c, b) })
		checkListKept(t, "BranchOfSequence", c.sequence, func(list []int64) {
			checkBranchOfSequence(t, list, c.terms, impl.ErrNone)
		})
	}
}

// checkSequenceCase checks all functions of a branch against a case, and writes all over their results.
func checkSequenceCase(t *testing.T, c sequenceCase, b impl.Branch) {
	t.Helper()
	sequence, code := impl.SequenceOf(b)
	if !slices.Equal(sequence, c.sequence) || code != impl.ErrNone {
		t.Errorf("SequenceOf(%v) = %v, %d", b, sequence, code)
	}
	long, code := impl.LongSequence(b, 3)
	if !slices.Equal(long, append(slices.Clone(c.sequence), 1, 1, 1)) || code != impl.ErrNone {
		t.Errorf("LongSequence(%v, 3) = %v, %d", b, long, code)
	}
	blocks, code := impl.BlocksOf(b)
	if !sameLists(blocks, c.blocks) || code != impl.ErrNone {
		t.Errorf("BlocksOf(%v) = %v, %d", b, blocks, code)
	}
	transform, code := impl.StrictTransform(b)
	if !slices.Equal(transform.Terms, c.transform) || code != impl.ErrNone {
		t.Errorf("StrictTransform(%v) = %v, %d", b, transform, code)
	}
	want := map[string]int64{"CountBranchPoints": int64(len(c.sequence)), "DeltaInvariant": c.delta, "MilnorOfBranch": 2 * c.delta, "CountBlowUps": c.blowUps}
	for name, f := range countFunctions() {
		if n, code := f(b); n != want[name] || code != impl.ErrNone {
			t.Errorf("%s(%v) = %d, %d", name, b, n, code)
		}
	}
	// Results that shared memory with the branch would change it.
	scribble(append(blocks, sequence, long, transform.Terms)...)
}

// checkBranchOfSequence checks the branch of a list, and whether it is a sequence.
func checkBranchOfSequence(t *testing.T, list, want []int64, wantCode int64) {
	t.Helper()
	b, code := impl.BranchOfSequence(list)
	if !slices.Equal(b.Terms, want) || code != wantCode {
		t.Errorf("BranchOfSequence(%v) = %v, %d; wanted %v, %d", list, b, code, want, wantCode)
	}
	if impl.IsSequence(list) != (wantCode == impl.ErrNone) {
		t.Errorf("IsSequence(%v) is %v", list, wantCode != impl.ErrNone)
	}
	scribble(b.Terms)
}

// TestSequencesByBlowUps checks sequences, their blocks and their lengths by blowing up exponents, and
// by the subtractive algorithm of Euclid.
func TestSequencesByBlowUps(t *testing.T) {
	codes := map[int64]int{}
	for _, terms := range sequenceBranches() {
		b := impl.Branch{Terms: terms}
		want := slowSequence(terms)
		if runs := slowRuns(terms); terms[0] > 1 && !slices.Equal(runs, want) {
			t.Fatalf("runs of %v make %v, blow ups %v", terms, runs, want)
		}
		if n, code := impl.CountBranchPoints(b); n != int64(len(want)) || code != impl.ErrNone {
			t.Errorf("CountBranchPoints(%v) = %d, %d; wanted %d", terms, n, code, len(want))
		}
		if n, code := impl.CountBlowUps(b); n != countGreater(want) || code != impl.ErrNone {
			t.Errorf("CountBlowUps(%v) = %d, %d; wanted %d", terms, n, code, countGreater(want))
		}
		wantBlocks, wantCode := slowBlocks(want), int64(impl.ErrNone)
		if len(want) > mostPoints {
			want, wantBlocks, wantCode = nil, nil, impl.ErrLimit
		}
		if x, code := impl.SequenceOf(b); !slices.Equal(x, want) || code != wantCode {
			t.Errorf("SequenceOf(%v) = %v, %d; wanted %v, %d", terms, x, code, want, wantCode)
		}
		blocks, code := impl.BlocksOf(b)
		if !sameLists(blocks, wantBlocks) || code != wantCode {
			t.Errorf("BlocksOf(%v) = %v, %d; wanted %v, %d", terms, blocks, code, wantBlocks, wantCode)
		}
		codes[wantCode]++
	}
	if codes[impl.ErrNone] < 3000 || codes[impl.ErrLimit] < 20 {
		t.Errorf("codes are %v", codes)
	}
}

// slowBlocks counts the different numbers of a list, in descending order.
func slowBlocks(list []int64) [][]int64 {
	var blocks [][]int64
	for m := int64(mostN); m >= 1; m-- {
		count := int64(0)
		for _, n := range list {
			if n == m {
				count++
			}
		}
		if count > 0 {
			blocks = append(blocks, []int64{m, count})
		}
	}
	return blocks
}

// TestSequenceLimits checks sequences of 399, 400 and 401 numbers, and of far more.
func TestSequenceLimits(t *testing.T) {
	for _, c := range []struct {
		terms, transform      []int64
		count, delta, blowUps int64
	}{
		{[]int64{2, 795}, []int64{2, 793}, 399, 397, 397}, {[]int64{2, 797}, nil, 400, 398, 398}, {[]int64{2, 799}, nil, 401, 399, 399},
		{[]int64{3, 1189}, []int64{3, 1186}, 399, 1188, 396}, {[]int64{3, 1190}, []int64{3, 1187}, 399, 1189, 397}, {[]int64{3, 1192}, nil, 400, 1191, 397},
		{[]int64{3, 1195}, nil, 401, 1194, 398}, {[]int64{4, 6, 797}, nil, 400, 403, 398}, {[]int64{4, 6, 795}, []int64{2, 793}, 399, 402, 397}, {[]int64{4, 6, 799}, nil, 401, 404, 399},
		{[]int64{2, 1999}, nil, 1001, 999, 999}, {[]int64{4, 6, 1999}, nil, 1001, 1004, 999}, {[]int64{3, 2000}, nil, 669, 1999, 667}, {[]int64{4, 1999}, nil, 503, 2997, 500},
	} {
		b := impl.Branch{Terms: c.terms}
		code, transformCode := int64(impl.ErrNone), int64(impl.ErrNone)
		if c.count > mostPoints {
			code = impl.ErrLimit
		}
		if c.transform == nil {
			transformCode = impl.ErrLimit
		}
		if x, got := impl.SequenceOf(b); got != code || code != impl.ErrNone && len(x) != 0 || code == impl.ErrNone && int64(len(x)) != c.count {
			t.Errorf("SequenceOf(%v) has %d numbers, code %d", c.terms, len(x), got)
		}
		if x, got := impl.BlocksOf(b); got != code || (len(x) == 0) != (code != impl.ErrNone) {
			t.Errorf("BlocksOf(%v) = %v, %d", c.terms, x, got)
		}
		if x, got := impl.StrictTransform(b); !slices.Equal(x.Terms, c.transform) || got != transformCode {
			t.Errorf("StrictTransform(%v) = %v, %d", c.terms, x, got)
		}
		want := map[string]int64{"CountBranchPoints": c.count, "DeltaInvariant": c.delta, "MilnorOfBranch": 2 * c.delta, "CountBlowUps": c.blowUps}
		for name, f := range countFunctions() {
			if n, got := f(b); n != want[name] || got != impl.ErrNone {
				t.Errorf("%s(%v) = %d, %d; wanted %d", name, c.terms, n, got, want[name])
			}
		}
	}
}

// TestLongSequence checks more ones of 0, MaxPoints, and beyond both ends, for sequences of all lengths.
func TestLongSequence(t *testing.T) {
	numbers := []int64{math.MinInt64, math.MinInt64 + 1, -1 << 32, -mostPoints, -2, -1, 0, 1, 2, 3, 395, 396, 397, 398, 399, 400, 401, 402, 1000, 1 << 32, 1<<32 + 1, math.MaxInt64 - 399, math.MaxInt64 - 1, math.MaxInt64}
	for _, terms := range append(edgeBranches(), []int64{1}, []int64{2, 3}, []int64{4, 6, 7}, []int64{2, 11}, longBranch) {
		sequence := slowSequence(terms)
		left := int64(mostPoints - len(sequence))
		for _, more := range append(slices.Clone(numbers), left-1, left, left+1, -left) {
			var want []int64
			wantCode := int64(impl.ErrNone)
			switch {
			case more < 0 || more > mostPoints:
				wantCode = impl.ErrRange
			case more > left:
				wantCode = impl.ErrLimit
			default:
				want = append(slices.Clone(sequence), repeated(1, int(more))...)
			}
			x, code := impl.LongSequence(impl.Branch{Terms: terms}, more)
			if !slices.Equal(x, want) || code != wantCode {
				t.Errorf("LongSequence(%v, %d) = %v, %d; wanted %v, %d", terms, more, x, code, want, wantCode)
			}
			if code == impl.ErrNone {
				checkBranchOfSequence(t, x, terms, impl.ErrNone)
			}
		}
	}
}

// TestBranchesOfSequences checks the first part of promise 4: the branch of the sequence of a branch,
// perhaps with more ones, is this branch.
func TestBranchesOfSequences(t *testing.T) {
	back := 0
	for i, terms := range sequenceBranches() {
		b := impl.Branch{Terms: terms}
		for _, more := range []int64{0, 1, 2, int64(i % 7), int64(i % 300), 399} {
			list, code := impl.LongSequence(b, more)
			if code != impl.ErrNone {
				continue
			}
			back++
			checkListKept(t, "BranchOfSequence", list, func(list []int64) { checkBranchOfSequence(t, list, terms, impl.ErrNone) })
		}
	}
	if back < 10000 {
		t.Errorf("only %d branches come back", back)
	}
}

// TestNumbersAreSums checks the second part of promise 4: each number greater than 1 of a sequence with
// sufficiently many more ones is a sum of those behind it; and that no point is proximate to more than
// two points.
func TestNumbersAreSums(t *testing.T) {
	checked := 0
	for _, terms := range sequenceBranches() {
		list, code := impl.LongSequence(impl.Branch{Terms: terms}, mostN)
		if code != impl.ErrNone {
			continue
		}
		checked++
		proximate := make([]int, len(list))
		for i, m := range list {
			sum, exact := int64(0), false
			for j := i + 1; j < len(list) && sum+list[j] <= m; j++ {
				sum += list[j]
				exact = sum == m
				if proximate[j]++; proximate[j] > 2 {
					t.Fatalf("%v: point %d of %v is proximate to more than two points", terms, j, list)
				}
			}
			if m > 1 && !exact {
				t.Fatalf("%v: number %d of %v is no sum of those behind it", terms, i, list)
			}
			if i > 0 && proximate[i] == 0 {
				t.Fatalf("%v: point %d of %v is proximate to none", terms, i, list)
			}
		}
	}
	if checked < 3000 {
		t.Errorf("only %d sequences are checked", checked)
	}
}

// TestStrictTransforms checks the last part of promise 4: strict transforms have the sequence with one
// more 1, without its first number.
func TestStrictTransforms(t *testing.T) {
	codes := map[int64]int{}
	for _, terms := range sequenceBranches() {
		b := impl.Branch{Terms: terms}
		c, code := impl.StrictTransform(b)
		codes[code]++
		sequence := slowSequence(terms)
		if len(sequence) > mostPoints-1 {
			if len(c.Terms) != 0 || code != impl.ErrLimit {
				t.Errorf("StrictTransform(%v) = %v, %d", terms, c, code)
			}
			continue
		}
		if want := slowBlowUp(terms); !slices.Equal(c.Terms, want) || code != impl.ErrNone {
			t.Errorf("StrictTransform(%v) = %v, %d; wanted %v", terms, c, code, want)
			continue
		}
		long, _ := impl.LongSequence(b, 1)
		count, _ := impl.CountBranchPoints(c)
		got, code := impl.LongSequence(c, int64(len(long))-1-count)
		if !slices.Equal(got, long[1:]) || code != impl.ErrNone {
			t.Errorf("StrictTransform(%v) = %v has the sequence %v, %d; wanted %v", terms, c, got, code, long[1:])
		}
		before, _ := impl.DeltaInvariant(b)
		after, _ := impl.DeltaInvariant(c)
		if m := terms[0]; before-after != m*(m-1)/2 {
			t.Errorf("StrictTransform(%v) = %v takes %d from the delta invariant", terms, c, before-after)
		}
	}
	if codes[impl.ErrNone] < 3000 || codes[impl.ErrLimit] < 20 {
		t.Errorf("codes are %v", codes)
	}
}

// TestBlowUpsToSmooth checks that a branch is smooth after as many blow ups as CountBlowUps tells, and
// not before.
func TestBlowUpsToSmooth(t *testing.T) {
	for _, terms := range append(branchesWithin(9, 20), []int64{1}, []int64{2, 795}, []int64{63, 2000}, longBranch) {
		b := impl.Branch{Terms: terms}
		want, _ := impl.CountBlowUps(b)
		count := int64(0)
		for ; len(b.Terms) > 1 && count <= want; count++ {
			b, _ = impl.StrictTransform(b)
		}
		if !slices.Equal(b.Terms, []int64{1}) || count != want {
			t.Errorf("%v becomes %v after %d blow ups; CountBlowUps tells %d", terms, b, count, want)
		}
	}
}

// TestDeltaAndMilnor checks both numbers by the multiplicities, by the exponents, and by the gaps of the
// semigroup.
func TestDeltaAndMilnor(t *testing.T) {
	check := func(terms []int64, want int64) {
		t.Helper()
		b := impl.Branch{Terms: terms}
		if n, code := impl.DeltaInvariant(b); n != want || code != impl.ErrNone {
			t.Errorf("DeltaInvariant(%v) = %d, %d; wanted %d", terms, n, code, want)
		}
		if n, code := impl.MilnorOfBranch(b); n != 2*want || code != impl.ErrNone {
			t.Errorf("MilnorOfBranch(%v) = %d, %d; wanted %d", terms, n, code, 2*want)
		}
	}
	for _, terms := range sequenceBranches() {
		delta := slowDelta(slowSequence(terms))
		if milnorByExponents(terms) != 2*delta {
			t.Fatalf("%v: the exponents tell the Milnor number %d, the blow ups %d", terms, milnorByExponents(terms), 2*delta)
		}
		check(terms, delta)
	}
	for _, terms := range append(branchesWithin(10, 22), longBranch, []int64{2, 1999}, []int64{64, 65}, []int64{12, 18, 20, 21}) {
		check(terms, slowGaps(terms))
	}
	check([]int64{64, 1999}, 62937)
	check([]int64{63, 2000}, 61969)
}

// TestTurnedSequences checks the last part of promise 3 by sequences: those of a turned characteristic,
// whose first step has q = 0, and of its branch are the same up to ones.
func TestTurnedSequences(t *testing.T) {
	multiples, others := 0, 0
	check := func(list []int64) {
		b, code := impl.TurnCharacteristic(list)
		if code != impl.ErrNone {
			return
		}
		if list[0]%list[1] == 0 {
			multiples++
		} else {
			others++
		}
		runs := slowRuns(list)
		if n, code := impl.MilnorOfBranch(b); n != 2*slowDelta(runs) || n != milnorByExponents(list) || code != impl.ErrNone {
			t.Errorf("MilnorOfBranch(%v) = %d, %d for the turned characteristic %v", b, n, code, list)
		}
		if len(runs) > mostPoints {
			return
		}
		if c, code := impl.BranchOfSequence(runs); !slices.Equal(c.Terms, b.Terms) || code != impl.ErrNone {
			t.Errorf("BranchOfSequence(%v) = %v, %d for the turned characteristic %v; wanted %v", runs, c, code, list, b)
		}
	}
	allLists(4, 1, 14, check)
	for n := int64(2); n <= mostN; n++ {
		for m := int64(1); m < n; m++ {
			check([]int64{n, m})
			for _, b := range []int64{m + 1, n + 1, n + m + 1, 1000, 1999 - n + m, 2000 - n + m} {
				check([]int64{n, m, b})
				check([]int64{n, m, b, b + 1})
			}
		}
	}
	if multiples < 500 || others < 500 {
		t.Errorf("only %d and %d lists are turned", multiples, others)
	}
}

// TestShortSequences checks all short lists of small numbers: those that it does not find among the
// sequences of all branches that could have them are sequences of no branch.
func TestShortSequences(t *testing.T) {
	const length, greatest = 7, 5
	of := map[string][]int64{}
	// The first run takes b(1) from the numbers but the last one, and so do the others.
	for _, terms := range branchesWithin(greatest, greatest*(length+1)) {
		for list := slowSequence(terms); len(list) <= length; list = append(list, 1) {
			of[keyOf([][]int64{list})] = terms
		}
	}
	found := map[string]bool{}
	allLists(length, 1, greatest, func(list []int64) {
		want, ok := of[keyOf([][]int64{list})]
		switch {
		case len(list) == 0:
			checkBranchOfSequence(t, list, nil, impl.ErrRange)
		case ok:
			found[keyOf([][]int64{list})] = true
			checkBranchOfSequence(t, list, want, impl.ErrNone)
		default:
			checkBranchOfSequence(t, list, nil, impl.ErrState)
		}
		if slow := slowBranchOfSequence(list); !slices.Equal(slow, want) {
			t.Fatalf("%v is the sequence of %v by blowing down, of %v by the table", list, slow, want)
		}
	})
	if len(found) != len(of) || len(found) < 40 {
		t.Errorf("found %d of %d sequences", len(found), len(of))
	}
}

func TestBranchOfSequence(t *testing.T) {
	ones := func(count int, list ...int64) []int64 { return append(list, repeated(1, count)...) }
	for _, c := range []struct {
		list, want []int64
		code       int64
	}{
		{[]int64{4, 2, 2, 1, 1, 1}, []int64{4, 6, 7}, 0}, {[]int64{4, 2, 2, 1, 1}, []int64{4, 6, 7}, 0}, {[]int64{2, 1, 1}, []int64{2, 3}, 0}, {[]int64{5, 2, 2, 1, 1}, []int64{5, 7}, 0},
		{[]int64{1}, []int64{1}, 0}, {[]int64{1, 1}, []int64{1}, 0}, {ones(399), []int64{1}, 0}, {ones(400), []int64{1}, 0}, {ones(401), nil, impl.ErrRange}, {ones(100000), nil, impl.ErrRange},
		{nil, nil, impl.ErrRange}, {[]int64{}, nil, impl.ErrRange},
		// A one too few, no ones, wrong orders, sums that are not met.
		{[]int64{4, 2, 2, 1}, nil, impl.ErrState}, {[]int64{2, 1}, nil, impl.ErrState}, {[]int64{2}, nil, impl.ErrState}, {[]int64{2, 2}, nil, impl.ErrState}, {[]int64{2, 2, 1}, nil, impl.ErrState},
		{[]int64{1, 2}, nil, impl.ErrState}, {[]int64{1, 2, 1, 1}, nil, impl.ErrState}, {[]int64{2, 1, 2}, nil, impl.ErrState}, {[]int64{2, 1, 1, 2}, nil, impl.ErrState}, {[]int64{2, 1, 1, 2, 1, 1}, nil, impl.ErrState},
		{[]int64{2, 3, 1, 1, 1}, nil, impl.ErrState}, {[]int64{2, 2, 3, 1, 1, 1}, nil, impl.ErrState}, {[]int64{4, 2, 1, 1, 1}, nil, impl.ErrState}, {[]int64{4, 2, 1, 1}, nil, impl.ErrState},
		{[]int64{3, 2, 2, 1, 1}, nil, impl.ErrState}, {[]int64{3, 2, 2, 1, 1, 1, 1}, nil, impl.ErrState}, {[]int64{6, 4, 2, 1, 1}, nil, impl.ErrState}, {[]int64{6, 4, 2, 2, 1, 1}, []int64{6, 10, 11}, 0},
		{[]int64{6, 4, 4, 1, 1, 1, 1}, nil, impl.ErrState}, {[]int64{5, 4, 1, 1, 1, 1}, []int64{5, 9}, 0}, {[]int64{5, 3, 2, 1, 1}, []int64{5, 8}, 0}, {[]int64{5, 2, 2, 2, 1, 1}, nil, impl.ErrState},
		{[]int64{5, 2, 1, 1, 1}, nil, impl.ErrState}, {[]int64{5, 2, 2, 1}, nil, impl.ErrState}, {[]int64{4, 3, 1, 1, 1}, []int64{4, 7}, 0}, {[]int64{4, 3, 1, 1}, nil, impl.ErrState},
		{[]int64{6, 3, 3, 2, 1, 1}, []int64{6, 9, 11}, 0}, {[]int64{6, 3, 3, 2, 1}, nil, impl.ErrState}, {[]int64{6, 3, 2, 1, 1}, nil, impl.ErrState}, {[]int64{6, 3, 3}, nil, impl.ErrState}, {[]int64{6, 3}, nil, impl.ErrState},
		{[]int64{6, 2, 2, 2, 1, 1}, []int64{6, 8, 9}, 0}, {[]int64{6, 2, 2, 1, 1}, nil, impl.ErrState}, {[]int64{6, 2, 2, 1, 1, 1, 1}, nil, impl.ErrState},
		// The limits of the numbers, and of their count.
		{ones(64, 64), []int64{64, 65}, 0}, {ones(63, 64), nil, impl.ErrState}, {ones(65, 65), nil, impl.ErrRange}, {[]int64{64}, nil, impl.ErrState}, {[]int64{65}, nil, impl.ErrRange},
		{[]int64{64, 32, 32, 16, 16, 8, 8, 4, 4, 2, 2, 1, 1}, longBranch, 0}, {ones(2, repeated(2, 398)...), []int64{2, 797}, 0}, {ones(2, repeated(2, 399)...), nil, impl.ErrRange},
		{ones(1, repeated(2, 399)...), nil, impl.ErrState}, {repeated(2, 400), nil, impl.ErrState}, {repeated(2, 401), nil, impl.ErrRange}, {repeated(64, 400), nil, impl.ErrState},
		{ones(3, repeated(2, 397)...), []int64{2, 795}, 0}, {ones(3, repeated(2, 398)...), nil, impl.ErrRange}, {ones(399, 2), []int64{2, 3}, 0}, {ones(400, 2), nil, impl.ErrRange},
		// Terms of 1999 and 2000, and of more: 7 * 285 + 5, 7 * 285 + 6, 64 * 31 + 15, 64 * 32 + 15, 63 * 31 + 47, 63 * 31 + 50.
		{ones(2, append(repeated(7, 285), 5, 2, 2)...), []int64{7, 2000}, 0}, {ones(6, append(repeated(7, 285), 6)...), nil, impl.ErrState},
		{ones(2, append(repeated(64, 31), 15, 15, 15, 15, 4, 4, 4, 3)...), nil, impl.ErrState}, {ones(3, append(repeated(64, 31), 15, 15, 15, 15, 4, 4, 4, 3)...), []int64{64, 1999}, 0},
		{ones(3, append(repeated(64, 32), 15, 15, 15, 15, 4, 4, 4, 3)...), nil, impl.ErrState}, {ones(15, append(repeated(63, 31), 47, 16, 16, 15)...), []int64{63, 2000}, 0},
		{ones(2, append(repeated(63, 31), 50, 13, 13, 13, 11, 2, 2, 2, 2, 2)...), nil, impl.ErrState}, {ones(2, append(repeated(63, 30), 50, 13, 13, 13, 11, 2, 2, 2, 2, 2)...), []int64{63, 1940}, 0},
		{ones(6, append([]int64{12, 6, 6}, repeated(6, 330)...)...), []int64{12, 18, 1999}, 0}, {ones(5, append([]int64{12, 6, 6}, append(repeated(6, 330), 5)...)...), nil, impl.ErrState},
		{ones(64, repeated(64, 336)...), nil, impl.ErrState},
	} {
		checkListKept(t, "BranchOfSequence", c.list, func(list []int64) { checkBranchOfSequence(t, list, c.want, c.code) })
		if c.code != impl.ErrRange {
			if slow := slowBranchOfSequence(c.list); !slices.Equal(slow, c.want) {
				t.Errorf("%v is the sequence of %v by blowing down", c.list, slow)
			}
		}
	}
}

// TestSequencesOutOfRange checks numbers that are not in 1..MaxMultiplicity at all places, also in lists
// that are no sequences for other reasons.
func TestSequencesOutOfRange(t *testing.T) {
	bad := []int64{0, -1, -2, -64, mostN + 1, mostN + 2, 128, 1 << 32, 1<<32 + 1, 1<<32 + 2, -1 << 32, math.MaxInt64, math.MaxInt64 - 1, math.MinInt64, math.MinInt64 + 1, math.MinInt64 + 2}
	for _, list := range [][]int64{{1}, {2}, {1, 2}, {2, 1, 1}, {2, 1, 1, 1}, {4, 2, 2, 1, 1}, {4, 2, 1, 1}, {5, 4, 3}, append([]int64{64}, repeated(1, 64)...), repeated(1, 400), repeated(2, 401)} {
		for i := range list {
			for _, n := range bad {
				wrong := slices.Clone(list)
				wrong[i] = n
				checkBranchOfSequence(t, wrong, nil, impl.ErrRange)
			}
		}
		for _, n := range bad {
			checkBranchOfSequence(t, append(slices.Clone(list), n), nil, impl.ErrRange)
			checkBranchOfSequence(t, []int64{n}, nil, impl.ErrRange)
			checkBranchOfSequence(t, repeated(n, 400), nil, impl.ErrRange)
			checkBranchOfSequence(t, repeated(n, 401), nil, impl.ErrRange)
		}
	}
}

// TestWrongSequences checks the beginnings of sequences, which are none, and sequences with a number
// changed, left out or put in.
func TestWrongSequences(t *testing.T) {
	codes := map[int64]int{}
	check := func(list []int64) {
		t.Helper()
		wantCode := int64(impl.ErrNone)
		want := []int64(nil)
		if len(list) == 0 || len(list) > mostPoints || slices.Min(list) < 1 || slices.Max(list) > mostN {
			wantCode = impl.ErrRange
		} else if want = slowBranchOfSequence(list); want == nil {
			wantCode = impl.ErrState
		}
		codes[wantCode]++
		checkBranchOfSequence(t, list, want, wantCode)
	}
	r := rand.New(rand.NewSource(41))
	for i, terms := range slices.Concat(branchesWithin(8, 18), wideBranches(), edgeBranches()) {
		list := slowSequence(terms)
		if len(list) > mostPoints+1 {
			continue
		}
		for k := len(list) - 1; k >= 0 && k >= len(list)-70; k-- {
			wantCode := int64(impl.ErrState)
			if k == 0 {
				wantCode = impl.ErrRange
			}
			if i%7 == 0 || k > len(list)-3 {
				checkBranchOfSequence(t, list[:k], nil, wantCode)
			}
		}
		check(list)
		for range 12 {
			k := r.Intn(len(list))
			if r.Intn(2) == 0 {
				// Most of the ones make no difference.
				k = r.Intn(min(len(list), int(countGreater(list))+2))
			}
			m := list[r.Intn(len(list))]
			check(slices.Insert(slices.Clone(list), k, m))
			check(slices.Delete(slices.Clone(list), k, k+1))
			check(slices.Replace(slices.Clone(list), k, k+1, m))
			check(slices.Replace(slices.Clone(list), k, k+1, list[k]+1))
			check(slices.Replace(slices.Clone(list), k, k+1, list[k]-1))
			check(append(slices.Clone(list), m))
		}
	}
	if codes[impl.ErrNone] < 5000 || codes[impl.ErrState] < 5000 || codes[impl.ErrRange] < 500 {
		t.Errorf("codes are %v", codes)
	}
}

// TestRandomSequences checks random lists that descend, among which some are sequences.
func TestRandomSequences(t *testing.T) {
	r := rand.New(rand.NewSource(42))
	found := 0
	for range 100000 {
		var list []int64
		for m := 1 + r.Int63n(20); m > 1; m = 1 + r.Int63n(m) {
			list = append(list, repeated(m, 1+r.Intn(4))...)
		}
		list = append(list, repeated(1, 1+r.Intn(8))...)
		want, wantCode := slowBranchOfSequence(list), int64(impl.ErrNone)
		if want == nil {
			wantCode = impl.ErrState
		} else {
			found++
		}
		checkBranchOfSequence(t, list, want, wantCode)
	}
	if found < 1000 {
		t.Errorf("only %d lists are sequences", found)
	}
}

// TestSequenceResultsAreNew checks that results share no memory with arguments or with other results.
func TestSequenceResultsAreNew(t *testing.T) {
	b := branch(12, 18, 20, 21)
	blocks := func() [][]int64 { x, _ := impl.BlocksOf(b); return x }
	want := [][]int64{{12, 1}, {6, 2}, {2, 3}, {1, 2}}
	lists := blocks()
	for i := range lists {
		scribble(lists[i])
		_ = append(lists[i], -98)
		for k := i + 1; k < len(lists); k++ {
			if !slices.Equal(lists[k], want[k]) {
				t.Errorf("BlocksOf: list %d shares memory with list %d: %v", i, k, lists)
			}
		}
	}
	if again := blocks(); !sameLists(again, want) {
		t.Errorf("BlocksOf: results of several calls share memory: %v", again)
	}
	for name, f := range map[string]func() []int64{
		"SequenceOf":       func() []int64 { x, _ := impl.SequenceOf(branch(4, 6, 7)); return x },
		"LongSequence":     func() []int64 { x, _ := impl.LongSequence(branch(4, 6, 7), 0); return x },
		"BranchOfSequence": func() []int64 { x, _ := impl.BranchOfSequence([]int64{4, 2, 2, 1, 1}); return x.Terms },
		"StrictTransform":  func() []int64 { x, _ := impl.StrictTransform(branch(6, 10, 11)); return x.Terms },
	} {
		want := []int64{4, 6, 7}
		if name == "SequenceOf" || name == "LongSequence" {
			want = []int64{4, 2, 2, 1, 1}
		}
		scribble(f())
		if x := f(); !slices.Equal(x, want) {
			t.Errorf("%s: %v", name, x)
		}
	}
	smooth := branch(1)
	c, _ := impl.StrictTransform(smooth)
	scribble(c.Terms)
	if smooth.Terms[0] != 1 {
		t.Errorf("StrictTransform of a smooth branch shares memory with it")
	}
}
