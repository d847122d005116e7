package tests

import (
	"math"
	"math/rand"
	"regexp"
	"slices"
	"strconv"
	"strings"
	"testing"

	"loop.example/g01140/impl"
)

// Limits of chapter 9.
const (
	mostBranches = 6
	mostCommon   = 200
)

// curve makes a curve of the terms of its branches and of its matrix.
func curve(terms, common [][]int64) impl.Curve {
	c := impl.Curve{Common: copyLists(common)}
	for _, list := range terms {
		c.Branches = append(c.Branches, branch(slices.Clone(list)...))
	}
	return c
}

// termsOf returns the terms of the branches of a curve.
func termsOf(c impl.Curve) [][]int64 {
	var terms [][]int64
	for _, b := range c.Branches {
		terms = append(terms, b.Terms)
	}
	return terms
}

// copyCurve returns a copy of a curve.
func copyCurve(c impl.Curve) impl.Curve { return curve(termsOf(c), c.Common) }

// evenCurve returns a curve in which each two branches have the same number of points in common.
func evenCurve(common int64, terms ...[]int64) impl.Curve {
	c := curve(terms, nil)
	for i := range terms {
		c.Common = append(c.Common, repeated(common, len(terms)))
		c.Common[i][i] = 0
	}
	return c
}

// withCommon returns the curve with another number at i and k alone.
func withCommon(c impl.Curve, i, k int, common int64) impl.Curve {
	d := copyCurve(c)
	d.Common[i][k] = common
	return d
}

// withBoth returns the curve with another number at i and k, and at k and i.
func withBoth(c impl.Curve, i, k int, common int64) impl.Curve {
	return withCommon(withCommon(c, i, k, common), k, i, common)
}

// slowPart returns the branches of a list with their numbers of common points, in the order of the list.
func slowPart(c impl.Curve, list []int64) impl.Curve {
	var d impl.Curve
	for _, i := range list {
		var row []int64
		for _, k := range list {
			row = append(row, c.Common[i][k])
		}
		d.Branches = append(d.Branches, branch(slices.Clone(c.Branches[i].Terms)...))
		d.Common = append(d.Common, row)
	}
	return d
}

// curveFunction is a function of a curve, whose results are put into lists, none for a zero value.
type curveFunction func(c impl.Curve) ([][]int64, int64)

// curveAsLists puts a curve into lists: the number of branches, their terms, and the rows of the matrix.
func curveAsLists(c impl.Curve, code int64) ([][]int64, int64) {
	if len(c.Branches) == 0 && len(c.Common) == 0 {
		return nil, code
	}
	return slices.Concat([][]int64{{int64(len(c.Branches))}}, termsOf(c), c.Common), code
}

// copiedCurve returns a copy of a curve, in lists, and writes all over the curve, so that it is seen if it shares
// memory with an argument, or if its own lists do so.
func copiedCurve(c impl.Curve, code int64) ([][]int64, int64) {
	lists, code := curveAsLists(copyCurve(c), code)
	all := slices.Concat(termsOf(c), c.Common)
	kept := copyLists(all)
	for i, list := range all {
		scribble(list)
		_ = append(list, -98)
		if !sameLists(all[i+1:], kept[i+1:]) {
			return [][]int64{{-99}}, -99
		}
	}
	clear(c.Branches[:cap(c.Branches)])
	clear(c.Common[:cap(c.Common)])
	return lists, code
}

// spareCurve returns a copy of a curve whose lists all have spare capacity.
func spareCurve(c impl.Curve) impl.Curve {
	spare := func(list []int64) []int64 { return append(slices.Clone(list), 71, 72, 73)[:len(list)] }
	var d impl.Curve
	for _, b := range c.Branches {
		d.Branches = append(d.Branches, branch(spare(b.Terms)...))
	}
	for _, row := range c.Common {
		d.Common = append(d.Common, spare(row))
	}
	d.Branches = append(d.Branches, branch(74), branch(75, 76))[:len(c.Branches)]
	d.Common = append(d.Common, []int64{77}, []int64{78, 79})[:len(c.Common)]
	return d
}

// wholeCurve returns all numbers of a curve, with those in spare capacity.
func wholeCurve(c impl.Curve) [][]int64 {
	var lists [][]int64
	for _, b := range c.Branches[:cap(c.Branches)] {
		lists = append(lists, slices.Clone(b.Terms[:cap(b.Terms)]), []int64{int64(len(b.Terms))})
	}
	for _, row := range c.Common[:cap(c.Common)] {
		lists = append(lists, slices.Clone(row[:cap(row)]), []int64{int64(len(row))})
	}
	return lists
}

// checkCurveKept calls f on a curve with spare capacity, and checks that f changes nothing of it.
func checkCurveKept(t *testing.T, name string, c impl.Curve, f func(c impl.Curve)) {
	t.Helper()
	given := spareCurve(c)
	before := wholeCurve(given)
	f(given)
	if after := wholeCurve(given); !sameLists(after, before) {
		t.Errorf("%s changes its argument: %v is now %v", name, before, after)
	}
}

// checkCurve checks a result of a function of a curve, that the curve is kept, and that writing all over the result
// changes nothing of the next one.
func checkCurve(t *testing.T, name string, f curveFunction, c impl.Curve, want [][]int64, wantCode int64) {
	t.Helper()
	checkCurveKept(t, name, c, func(c impl.Curve) {
		for range 2 {
			x, code := f(c)
			if !sameLists(x, want) || code != wantCode {
				t.Errorf("%s(%v) = %v, %d; wanted %v, %d", name, c, x, code, want, wantCode)
			}
			scribble(x...)
		}
	})
}

// ownCurveFunctions returns the functions of a curve alone.
func ownCurveFunctions() map[string]curveFunction {
	return map[string]curveFunction{
		"CurveMultiplicity": func(c impl.Curve) ([][]int64, int64) { return numberAsLists(impl.CurveMultiplicity(c)) },
		"CurveDelta":        func(c impl.Curve) ([][]int64, int64) { return numberAsLists(impl.CurveDelta(c)) },
		"CurveMilnor":       func(c impl.Curve) ([][]int64, int64) { return numberAsLists(impl.CurveMilnor(c)) },
		"LengthsOf":         func(c impl.Curve) ([][]int64, int64) { return listAsLists(impl.LengthsOf(c)) },
		"CurveCluster":      func(c impl.Curve) ([][]int64, int64) { return copiedResult(impl.CurveCluster(c)) },
		"LeavingPoints":     func(c impl.Curve) ([][]int64, int64) { return listAsLists(impl.LeavingPoints(c)) },
		"CurveText":         func(c impl.Curve) ([][]int64, int64) { return textAsLists(impl.CurveText(c)) },
	}
}

// meetingOf returns IntersectionNumber of two branches as a function of a curve.
func meetingOf(i, k int64) curveFunction {
	return func(c impl.Curve) ([][]int64, int64) { return numberAsLists(impl.IntersectionNumber(c, i, k)) }
}

// renumberedBy returns RenumberCurve by a permutation as a function of a curve.
func renumberedBy(t *testing.T, p []int64) curveFunction {
	return func(c impl.Curve) (lists [][]int64, code int64) {
		checkListKept(t, "RenumberCurve", p, func(p []int64) { lists, code = copiedCurve(impl.RenumberCurve(c, p)) })
		return lists, code
	}
}

// partWith returns PartOfCurve for a list as a function of a curve.
func partWith(t *testing.T, list []int64) curveFunction {
	return func(c impl.Curve) (lists [][]int64, code int64) {
		checkListKept(t, "PartOfCurve", list, func(list []int64) { lists, code = copiedCurve(impl.PartOfCurve(c, list)) })
		return lists, code
	}
}

// checkIsCurve checks whether something is a curve.
func checkIsCurve(t *testing.T, c impl.Curve, want bool) {
	t.Helper()
	checkCurveKept(t, "IsCurve", c, func(c impl.Curve) {
		if impl.IsCurve(c) != want {
			t.Errorf("IsCurve(%v) is %v", c, !want)
		}
	})
}

// branchPoints are the sequence of a branch, and as many of its points as the definition of curves asks for.
type branchPoints struct {
	sequence, multiplicities []int64
	proximates               [][]int64
}

// knownPoints keeps the points of branches, because the same ones are asked for again and again.
var knownPoints = map[string]branchPoints{}

// pointsOfTerms returns the points of a branch by blowing it up.
func pointsOfTerms(terms []int64) branchPoints {
	key := keyOf([][]int64{terms})
	points, ok := knownPoints[key]
	if !ok {
		multiplicities := slowMultiplicities(terms, mostCommon+1)
		points = branchPoints{slowSequence(terms), multiplicities, slowProximates(multiplicities)}
		knownPoints[key] = points
	}
	return points
}

// canShare tells by the definition whether two branches can have some points in common: they lie on the same curves
// at each of them, and not both in the same crossing of curves behind them.
func canShare(p, q []int64, common int64) bool {
	a, b := pointsOfTerms(p).proximates, pointsOfTerms(q).proximates
	return sameLists(a[:common], b[:common]) && !(len(a[common]) == 2 && slices.Equal(a[common], b[common]))
}

// slowIsCurve tells by the definition whether something is a curve.
func slowIsCurve(c impl.Curve) bool {
	count := len(c.Branches)
	if count == 0 || count > mostBranches || len(c.Common) != count {
		return false
	}
	for i, b := range c.Branches {
		if !slowIsBranch(b.Terms) || len(c.Common[i]) != count {
			return false
		}
	}
	for i, row := range c.Common {
		for k, common := range row {
			if i == k && common == 0 {
				continue
			}
			if i == k || common < 1 || common > mostCommon || common != c.Common[k][i] || !canShare(c.Branches[i].Terms, c.Branches[k].Terms, common) {
				return false
			}
		}
	}
	for i := range count {
		for k := range count {
			for j := range count {
				if i != k && j != i && j != k && c.Common[i][k] < c.Common[i][j] && c.Common[i][k] < c.Common[j][k] {
					return false
				}
			}
		}
	}
	return true
}

// curveFacts are what the functions of a curve alone return. The cluster has no points if it would have too many.
type curveFacts struct {
	multiplicity, delta, milnor int64
	numbers                     [][]int64
	lengths                     []int64
	cluster                     impl.Cluster
	leaving                     []int64
	text                        string
}

// slowCurveFacts finds what follows from the branches of a curve and from their numbers of common points.
func slowCurveFacts(c impl.Curve) curveFacts {
	facts := curveFacts{milnor: 1 - int64(len(c.Branches))}
	var texts, numbers []string
	for i, row := range c.Common {
		points := pointsOfTerms(c.Branches[i].Terms)
		facts.multiplicity += points.sequence[0]
		facts.delta += slowDelta(points.sequence)
		length := int64(len(points.sequence))
		meetings := repeated(0, len(row))
		for k, common := range row {
			length = max(length, common)
			other := pointsOfTerms(c.Branches[k].Terms).multiplicities
			for n := range common {
				meetings[k] += points.multiplicities[n] * other[n]
			}
			if i < k {
				facts.delta += meetings[k]
				numbers = append(numbers, strconv.FormatInt(common, 10))
			}
		}
		facts.numbers = append(facts.numbers, meetings)
		facts.lengths = append(facts.lengths, length)
		var terms []string
		for _, n := range c.Branches[i].Terms {
			terms = append(terms, strconv.FormatInt(n, 10))
		}
		texts = append(texts, "("+strings.Replace(strings.Join(terms, ","), ",", ";", 1)+")")
	}
	facts.milnor += 2 * facts.delta
	facts.text = strings.Join(texts, " ")
	if len(numbers) > 0 {
		facts.text += "|" + strings.Join(numbers, " ")
	}
	facts.cluster, facts.leaving = slowCurveCluster(c, facts.lengths)
	return facts
}

// slowCurveCluster returns the cluster of a curve and the leaving points of its branches, or none if there are too
// many points. A point belongs to the first branch that has it.
func slowCurveCluster(c impl.Curve, lengths []int64) (impl.Cluster, []int64) {
	numbers := map[[2]int64]int64{}
	var proximates [][]int64
	var weights, leaving []int64
	for k, length := range lengths {
		points := pointsOfTerms(c.Branches[k].Terms)
		path := make([]int64, length)
		for n := range length {
			owner := int64(k)
			for i := k - 1; i >= 0; i-- {
				if n < c.Common[i][k] {
					owner = int64(i)
				}
			}
			number, ok := numbers[[2]int64{owner, n}]
			if !ok {
				number = int64(len(weights))
				if number == mostCluster {
					return impl.Cluster{}, nil
				}
				numbers[[2]int64{owner, n}] = number
				var list []int64
				for _, j := range points.proximates[n] {
					list = append(list, path[j])
				}
				proximates, weights = append(proximates, list), append(weights, 0)
			}
			path[n] = number
			weights[number] += points.multiplicities[n]
		}
		leaving = append(leaving, path[length-1])
	}
	return clusterWith(proximates, weights), leaving
}

// checkCurveFacts checks all functions of a curve alone, its intersection numbers, and its text.
func checkCurveFacts(t *testing.T, c impl.Curve, facts curveFacts) {
	t.Helper()
	want, limited := map[string][][]int64{}, map[string]bool{}
	want["CurveMultiplicity"], _ = numberAsLists(facts.multiplicity, 0)
	want["CurveDelta"], _ = numberAsLists(facts.delta, 0)
	want["CurveMilnor"], _ = numberAsLists(facts.milnor, 0)
	want["LengthsOf"], _ = listAsLists(facts.lengths, 0)
	want["CurveCluster"], _ = clusterAsLists(facts.cluster, 0)
	want["LeavingPoints"], _ = listAsLists(facts.leaving, 0)
	want["CurveText"], _ = textAsLists(facts.text, 0)
	limited["CurveCluster"], limited["LeavingPoints"] = len(facts.leaving) == 0, len(facts.leaving) == 0
	for name, f := range ownCurveFunctions() {
		code := int64(impl.ErrNone)
		if limited[name] {
			code = impl.ErrLimit
		}
		checkCurve(t, name, f, c, want[name], code)
	}
	for i, row := range facts.numbers {
		for k, n := range row {
			code := int64(impl.ErrNone)
			if i == k {
				code = impl.ErrRange
			}
			want, _ := numberAsLists(n, 0)
			checkCurve(t, "IntersectionNumber", meetingOf(int64(i), int64(k)), c, want, code)
		}
	}
	checkIsCurve(t, c, true)
	checkParsedCurve(t, facts.text, c)
}

// checkParsedCurve checks that a text is parsed to a curve, or is a wrong one if that has no branches.
func checkParsedCurve(t *testing.T, text string, want impl.Curve) {
	t.Helper()
	wantLists, wantCode := curveAsLists(want, impl.ErrNone)
	if len(wantLists) == 0 {
		wantCode = impl.ErrSyntax
	}
	for range 2 {
		lists, code := copiedCurve(impl.ParseCurve(text))
		if !sameLists(lists, wantLists) || code != wantCode {
			t.Errorf("ParseCurve(%q) = %v, %d; wanted %v, %d", text, lists, code, wantLists, wantCode)
		}
	}
}

// curvePattern matches texts of branches and numbers; whether they make a curve remains open.
var curvePattern = regexp.MustCompile(`^(\([0-9;,]*\)(?: \([0-9;,]*\))*)(?:\|([1-9][0-9]{0,2}(?: [1-9][0-9]{0,2})*))?$`)

// grammarCurve returns the curve with a text, or one without branches.
func grammarCurve(text string) impl.Curve {
	found := curvePattern.FindStringSubmatch(text)
	if found == nil {
		return impl.Curve{}
	}
	var c impl.Curve
	for _, part := range strings.Split(found[1], " ") {
		c.Branches = append(c.Branches, impl.Branch{Terms: grammarBranch(part)})
	}
	if len(c.Branches) > mostBranches {
		return impl.Curve{}
	}
	var numbers []string
	if found[2] != "" {
		numbers = strings.Split(found[2], " ")
	}
	for i := range c.Branches {
		c.Common = append(c.Common, repeated(0, len(c.Branches)))
		for k := range i {
			c.Common[i][k] = -1
		}
	}
	for i := range c.Common {
		for k := i + 1; k < len(c.Common); k++ {
			if len(numbers) == 0 {
				return impl.Curve{}
			}
			n, _ := strconv.ParseInt(numbers[0], 10, 64)
			c.Common[i][k], c.Common[k][i], numbers = n, n, numbers[1:]
		}
	}
	if len(numbers) > 0 || !slowIsCurve(c) {
		return impl.Curve{}
	}
	return c
}

func TestCurveConstants(t *testing.T) {
	if impl.MaxBranches != mostBranches || impl.MaxCommon != mostCommon {
		t.Errorf("MaxBranches is %d, MaxCommon is %d", impl.MaxBranches, impl.MaxCommon)
	}
}

// curveCase is a curve with what follows from it: the intersection numbers of i and k, i less than k, row by row, and
// the text of its cluster, which is empty if that would have too many points.
type curveCase struct {
	text                        string
	multiplicity, delta, milnor int64
	numbers, lengths            []int64
	cluster                     string
	leaving                     []int64
}

func curveCases() []curveCase {
	row := func(weight string, count int) string {
		text := weight
		for i := range count - 1 {
			text += " " + weight + ":" + strconv.Itoa(i)
		}
		return text
	}
	return []curveCase{
		{"(1)", 1, 0, 0, nil, []int64{1}, "1", []int64{0}},
		{"(1) (1)|1", 2, 1, 1, []int64{1}, []int64{1, 1}, "2", []int64{0, 0}},
		{"(2;3) (1)|2", 3, 4, 7, []int64{3}, []int64{3, 2}, "3 2:0 1:1,0", []int64{2, 1}},
		{"(1) (2;3)|2", 3, 4, 7, []int64{3}, []int64{2, 3}, "3 2:0 1:1,0", []int64{1, 2}},
		{"(2;3) (1)|1", 3, 3, 5, []int64{2}, []int64{3, 1}, "3 1:0 1:1,0", []int64{2, 0}},
		{"(2;3)", 2, 1, 2, nil, []int64{3}, "2 1:0 1:1,0", []int64{2}},
		{"(4;6,7)", 4, 8, 16, nil, []int64{5}, "4 2:0 2:1,0 1:2 1:3,2", []int64{4}},
		{"(2;3) (1) (1)|1 2 1", 4, 7, 12, []int64{2, 3, 1}, []int64{3, 1, 2}, "4 2:0 1:1,0", []int64{2, 0, 1}},
		{"(1) (1)|2", 2, 2, 3, []int64{2}, []int64{2, 2}, "2 2:0", []int64{1, 1}},
		{"(1) (1) (1)|1 1 1", 3, 3, 4, []int64{1, 1, 1}, []int64{1, 1, 1}, "3", []int64{0, 0, 0}},
		{"(1) (1) (1)|1 1 2", 3, 4, 6, []int64{1, 1, 2}, []int64{1, 2, 2}, "3 2:0", []int64{0, 1, 1}},
		{"(1) (1) (1)|3 1 1", 3, 5, 8, []int64{3, 1, 1}, []int64{3, 3, 1}, "3 2:0 2:1", []int64{2, 2, 0}},
		{"(2;3) (2;3)|1", 4, 6, 11, []int64{4}, []int64{3, 3}, "4 1:0 1:1,0 1:0 1:3,0", []int64{2, 4}},
		{"(2;3) (2;3)|3", 4, 8, 15, []int64{6}, []int64{3, 3}, "4 2:0 2:1,0", []int64{2, 2}},
		{"(2;3) (2;3)|5", 4, 10, 19, []int64{8}, []int64{5, 5}, "4 2:0 2:1,0 2:2 2:3", []int64{4, 4}},
		{"(4;6,7) (2;3)|4", 6, 22, 43, []int64{13}, []int64{5, 4}, "6 3:0 3:1,0 2:2 1:3,2", []int64{4, 3}},
		{"(4;6,7) (2;3)|3", 6, 21, 41, []int64{12}, []int64{5, 3}, "6 3:0 3:1,0 1:2 1:3,2", []int64{4, 2}},
		{"(3;4) (3;5)|3", 6, 19, 37, []int64{12}, []int64{4, 4}, "6 3:0 2:1,0 1:2,0 1:2,1", []int64{3, 4}},
		{"(3;4) (3;5) (2;3)|3 3 3", 8, 37, 72, []int64{12, 8, 9}, []int64{4, 4, 3}, "8 4:0 3:1,0 1:2,0 1:2,1", []int64{3, 4, 2}},
		{"(2;5) (1)|3", 3, 7, 13, []int64{5}, []int64{4, 3}, "3 3:0 2:1 1:2,1", []int64{3, 2}},
		{"(1) (2;3) (1) (2;5) (1) (2;3)|1 2 1 1 2 1 2 2 1 1 1 2 3 1 1", 9, 46, 87, []int64{2, 2, 2, 1, 3, 2, 6, 3, 4, 2, 1, 3, 5, 4, 2}, []int64{2, 3, 2, 4, 3, 3}, "9 3:0 4:0 1:2,0 2:2 1:4,2 1:1,0", []int64{1, 3, 1, 5, 4, 6}},
		{"(2;3) (2;3) (2;3) (2;3) (2;3) (2;3)|3 3 3 3 3 3 3 3 3 3 3 3 3 3 3", 12, 96, 187, repeated(6, 15), repeated(3, 6), "12 6:0 6:1,0", repeated(2, 6)},
		{"(1) (1) (1) (1) (1) (1)|1 1 1 1 1 1 1 1 1 1 1 1 1 1 1", 6, 15, 25, repeated(1, 15), repeated(1, 6), "6", repeated(0, 6)},
		{"(1) (1)|24", 2, 24, 47, []int64{24}, []int64{24, 24}, row("2", 24), []int64{23, 23}},
		{"(1) (1)|25", 2, 25, 49, []int64{25}, []int64{25, 25}, "", nil},
		{"(1) (1)|200", 2, 200, 399, []int64{200}, []int64{200, 200}, "", nil},
		{"(2;3) (2;3)|200", 4, 205, 409, []int64{203}, []int64{200, 200}, "", nil},
		{"(2;1999)", 2, 999, 1998, nil, []int64{1001}, "", nil},
		{"(2;1999) (2;1999)|200", 4, 2798, 5595, []int64{800}, []int64{1001, 1001}, "", nil},
		{"(64;65) (64;65)|1", 128, 8128, 16255, []int64{4096}, []int64{65, 65}, "", nil},
		{"(64;65) (64;65)|200", 128, 8327, 16653, []int64{4295}, []int64{200, 200}, "", nil},
	}
}

// caseFacts returns what a case tells of its curve.
func caseFacts(t *testing.T, c impl.Curve, given curveCase) curveFacts {
	facts := curveFacts{given.multiplicity, given.delta, given.milnor, nil, given.lengths, grammarCluster(given.cluster), given.leaving, given.text}
	numbers := slices.Clone(given.numbers)
	for range c.Branches {
		facts.numbers = append(facts.numbers, repeated(0, len(c.Branches)))
	}
	for i := range c.Branches {
		for k := i + 1; k < len(c.Branches); k++ {
			facts.numbers[i][k], facts.numbers[k][i], numbers = numbers[0], numbers[0], numbers[1:]
		}
	}
	if (len(facts.cluster.Weights) == 0) != (given.cluster == "") || len(numbers) > 0 {
		t.Fatalf("%q is no text, or there are too many numbers: %v", given.cluster, given)
	}
	return facts
}

// TestCurveCases checks all functions of a curve alone, and that those of the test find the same.
func TestCurveCases(t *testing.T) {
	for _, given := range curveCases() {
		c := grammarCurve(given.text)
		if len(c.Branches) == 0 {
			t.Fatalf("%q is no text", given.text)
		}
		facts, slow := caseFacts(t, c, given), slowCurveFacts(c)
		checkCurveFacts(t, c, facts)
		lists, slowLists := append(copyLists(facts.numbers), facts.lengths, facts.leaving), append(copyLists(slow.numbers), slow.lengths, slow.leaving)
		cluster, _ := clusterAsLists(facts.cluster, 0)
		slowCluster, _ := clusterAsLists(slow.cluster, 0)
		if slow.multiplicity != facts.multiplicity || slow.delta != facts.delta || slow.milnor != facts.milnor || slow.text != facts.text || !sameLists(lists, slowLists) || !sameLists(cluster, slowCluster) {
			t.Errorf("%q has %v; wanted %v", given.text, slow, facts)
		}
	}
}

// continuedCode puts numbers behind those of a code, in which satellites are the rarer, the less the number often is.
func continuedCode(r *rand.Rand, code []int64, count, often int) []int64 {
	code = slices.Clone(code)
	for range count {
		choices := []int64{0}
		if n := len(code); n > 0 {
			choices = append(choices, 2)
			if code[n-1] > 0 {
				choices = append(choices, code[n-1]+1)
			}
		}
		c := choices[r.Intn(len(choices))]
		if r.Intn(10) >= often {
			c = 0
		}
		code = append(code, c)
	}
	return code
}

// termsOfCode returns the branch of a code with free points behind it, or nil if there is none.
func termsOfCode(code []int64) []int64 {
	for len(code) > 0 && code[len(code)-1] == 0 {
		code = code[:len(code)-1]
	}
	multiplicities := slowCurvette(proximatesOfCode(code))
	if multiplicities[0] > mostN {
		return nil
	}
	return slowBranchOfSequence(multiplicities)
}

// randomCurve returns a curve with some branches. Each one but the first has up to most points in common with one
// before it, and then one that is not yet taken, where satellites are the rarer, the less the number often is.
func randomCurve(r *rand.Rand, count int, most int64, often int) impl.Curve {
	codes := [][]int64{withZeros(continuedCode(r, nil, r.Intn(10), often))}
	terms := [][]int64{termsOfCode(codes[0])}
	if terms[0] == nil {
		return randomCurve(r, count, most, often)
	}
	common := [][]int64{{0}}
	for len(codes) < count {
		j, points := r.Intn(len(codes)), 1+r.Int63n(most)
		taken := map[int64]bool{}
		for k, code := range codes {
			if k == j || common[j][k] >= points {
				taken[code[points-1]] = true
			}
		}
		code := continuedCode(r, codes[j][:points-1], 1, 10)
		if next := code[points-1]; next > 0 && taken[next] {
			continue
		}
		if r.Intn(3) > 0 {
			code = continuedCode(r, code, r.Intn(8), often)
		}
		list := termsOfCode(code)
		if list == nil {
			continue
		}
		row := make([]int64, len(codes))
		for k := range codes {
			row[k] = points
			if k != j {
				row[k] = min(points, common[j][k])
			}
			common[k] = append(common[k], row[k])
		}
		codes, terms, common = append(codes, withZeros(code)), append(terms, list), append(common, append(row, 0))
	}
	return curve(terms, common)
}

// withZeros returns a code with so many zeros behind it that all numbers of common points find it.
func withZeros(code []int64) []int64 {
	return append(slices.Clone(code), repeated(0, mostCommon+1)...)
}

// smallCurves returns all curves with two branches out of small ones, in all orders, and with three out of fewer of
// them, that have up to some points in common.
func smallCurves() []impl.Curve {
	var curves []impl.Curve
	all, few := branchesWithin(4, 9), [][]int64{{1}, {2, 3}, {2, 5}, {3, 4}, {3, 5}, {4, 6, 7}}
	for _, p := range all {
		curves = append(curves, evenCurve(0, p))
		for _, q := range all {
			for common := int64(1); common <= 7; common++ {
				if canShare(p, q, common) {
					curves = append(curves, evenCurve(common, p, q))
				}
			}
		}
	}
	for _, p := range few {
		for _, q := range few {
			for _, s := range few {
				allLists(3, 1, 5, func(numbers []int64) {
					if len(numbers) < 3 {
						return
					}
					c := curve([][]int64{p, q, s}, [][]int64{{0, numbers[0], numbers[1]}, {numbers[0], 0, numbers[2]}, {numbers[1], numbers[2], 0}})
					if slowIsCurve(c) {
						curves = append(curves, c)
					}
				})
			}
		}
	}
	return curves
}

// someCurves returns random curves with one to six branches, and some at the limits.
func someCurves() []impl.Curve {
	r := rand.New(rand.NewSource(95))
	var curves []impl.Curve
	for n := range 1500 {
		count := 1 + n%mostBranches
		curves = append(curves, randomCurve(r, count, []int64{1, 2, 3, 4, 6, 9, 13}[n%7], []int{3, 10, 6}[n%3]))
		if n%10 == 0 {
			curves = append(curves, randomCurve(r, 1+r.Intn(mostBranches), mostCommon, 3))
		}
	}
	for _, terms := range [][]int64{{1}, {2, 3}, {2, 399}, {2, 401}, {2, 403}, {2, 1999}, {3, 2000}, {4, 6, 1999}, {64, 65}, {63, 2000}, longBranch, {64, 1998, 1999}} {
		curves = append(curves, evenCurve(0, terms))
		for _, common := range []int64{1, 2, 3, mostCommon - 1, mostCommon} {
			if canShare(terms, terms, common) {
				curves = append(curves, evenCurve(common, terms, terms), evenCurve(common, slices.Repeat([][]int64{terms}, mostBranches)...))
			}
		}
	}
	return curves
}

// partingOf tells how two branches part behind their common points.
func partingOf(p, q []int64, common int64) string {
	a, b := pointsOfTerms(p), pointsOfTerms(q)
	switch satellites := countSatellites([][]int64{a.proximates[common], b.proximates[common]}); {
	case satellites == 2:
		return "at two satellites"
	case satellites == 1:
		return "at a satellite"
	case common >= int64(max(len(a.sequence), len(b.sequence))):
		return "behind their ends"
	}
	return "at free points"
}

// TestCurvesAgree checks all functions of a curve alone against what follows from the sequences of its branches.
func TestCurvesAgree(t *testing.T) {
	numbers := map[string]int{}
	for _, c := range append(smallCurves(), someCurves()...) {
		if !slowIsCurve(c) {
			t.Fatalf("%v is no curve", c)
		}
		facts := slowCurveFacts(c)
		checkCurveFacts(t, c, facts)
		numbers[strconv.Itoa(len(c.Branches))+" branches"]++
		if len(facts.leaving) == 0 {
			numbers["too many points"]++
		}
		for i, p := range termsOf(c) {
			if len(p) == 1 {
				numbers["smooth"]++
			}
			if len(p) > 2 {
				numbers["several pairs"]++
			}
			for k, q := range termsOf(c)[:i] {
				numbers[partingOf(p, q, c.Common[i][k])]++
				if slices.Equal(p, q) {
					numbers["twice the same"]++
				}
			}
		}
	}
	for name, least := range map[string]int{
		"1 branches": 250, "2 branches": 700, "3 branches": 700, "4 branches": 200, "5 branches": 200, "6 branches": 200, "too many points": 250, "smooth": 2000, "several pairs": 1000,
		"at two satellites": 100, "at a satellite": 1000, "behind their ends": 700, "at free points": 3000, "twice the same": 2000,
	} {
		if numbers[name] < least {
			t.Errorf("numbers are %v; wanted at least %d of %q", numbers, least, name)
		}
	}
}

// TestSumsOfPowers checks the curves of x^p + y^q, whose Milnor number is (p - 1) (q - 1): their branches, one for each
// common divisor, have all points of their sequences in common, and smooth ones as many as q / p tells.
func TestSumsOfPowers(t *testing.T) {
	count := 0
	for p := int64(2); p <= 40; p++ {
		for q := p; q <= 90; q++ {
			d := slowDivisor(p, q)
			if d > mostBranches {
				continue
			}
			terms, common := []int64{1}, q/p
			if p > d {
				terms = []int64{p / d, q / d}
				common = int64(len(slowRuns(terms)))
			}
			c := evenCurve(common, slices.Repeat([][]int64{terms}, int(d))...)
			checkIsCurve(t, c, true)
			if n, code := impl.CurveMilnor(c); n != (p-1)*(q-1) || code != impl.ErrNone {
				t.Errorf("CurveMilnor(%v) = %d, %d; wanted %d", c, n, code, (p-1)*(q-1))
			}
			if d > 1 {
				if n, code := impl.IntersectionNumber(c, 0, d-1); n != p*q/d/d || code != impl.ErrNone {
					t.Errorf("IntersectionNumber(%v) = %d, %d; wanted %d", c, n, code, p*q/d/d)
				}
			}
			count++
		}
	}
	if count < 1800 {
		t.Errorf("there are only %d curves", count)
	}
}

// greatestShare returns the greatest number of points that two branches can have in common, or 0 if that is beyond
// MaxCommon.
func greatestShare(p, q []int64) int64 {
	for common := int64(mostCommon); common > 0; common-- {
		if canShare(p, q, common) {
			if common == mostCommon {
				return 0
			}
			return common
		}
	}
	return 0
}

// TestTruncationsMeetInGenerators checks intersection numbers of branches and their truncations after fewer pairs: with
// the greatest number of points in common, they are the generators of the branch.
func TestTruncationsMeetInGenerators(t *testing.T) {
	count, pairs := 0, map[int]int{}
	for _, terms := range slices.Concat(branchesWithin(12, 24), wideBranches()[:200], [][]int64{{12, 18, 20, 21}, {24, 36, 40, 42, 43}, {64, 96, 112, 120, 124, 126, 127}}) {
		generators, _ := impl.GeneratorsOf(branch(terms...))
		for i := 1; i < len(terms); i++ {
			semiroot, _ := impl.TruncateBranch(branch(terms...), int64(i-1))
			common := greatestShare(terms, semiroot.Terms)
			if common == 0 {
				continue
			}
			want := [][]int64{{generators[i]}}
			checkCurve(t, "IntersectionNumber", meetingOf(0, 1), evenCurve(common, terms, semiroot.Terms), want, impl.ErrNone)
			checkCurve(t, "IntersectionNumber", meetingOf(0, 1), evenCurve(common, semiroot.Terms, terms), want, impl.ErrNone)
			count++
			pairs[len(terms)-1]++
		}
	}
	if count < 500 || pairs[2] < 200 || pairs[3] < 50 || pairs[6] < 6 {
		t.Errorf("%d numbers are checked, %v", count, pairs)
	}
}

// TestCurveOfBranch checks curves with one branch.
func TestCurveOfBranch(t *testing.T) {
	for _, terms := range slices.Concat(branchesWithin(8, 20), wideBranches()[:300], edgeBranches()) {
		checkBranchKept(t, "CurveOfBranch", terms, func(b impl.Branch) {
			for range 2 {
				lists, code := copiedCurve(impl.CurveOfBranch(b))
				if want := [][]int64{{1}, terms, {0}}; !sameLists(lists, want) || code != impl.ErrNone {
					t.Errorf("CurveOfBranch(%v) = %v, %d", b, lists, code)
				}
			}
		})
		c := evenCurve(0, terms)
		delta, _ := impl.DeltaInvariant(branch(terms...))
		milnor, _ := impl.MilnorOfBranch(branch(terms...))
		count, _ := impl.CountBranchPoints(branch(terms...))
		want := map[string]int64{"CurveMultiplicity": terms[0], "CurveDelta": delta, "CurveMilnor": milnor, "LengthsOf": count}
		for name, n := range want {
			lists, _ := numberAsLists(n, 0)
			checkCurve(t, name, ownCurveFunctions()[name], c, lists, impl.ErrNone)
		}
		if count <= mostCluster {
			cluster, _ := impl.ClusterOfBranch(branch(terms...), count)
			checkCurve(t, "CurveCluster", ownCurveFunctions()["CurveCluster"], c, [][]int64{cluster.Parents, cluster.Seconds, cluster.Weights}, impl.ErrNone)
		}
	}
	for _, terms := range invalidBranches() {
		checkBranchKept(t, "CurveOfBranch", terms, func(b impl.Branch) {
			if lists, code := curveAsLists(impl.CurveOfBranch(b)); lists != nil || code != impl.ErrInvalid {
				t.Errorf("CurveOfBranch(%v) = %v, %d", b, lists, code)
			}
		})
	}
}

// TestCommonLimits checks numbers of common points of 0, 1, MaxCommon and beyond, on the diagonal and off it, on both
// sides and on one.
func TestCommonLimits(t *testing.T) {
	outside := []int64{0, -1, -2, -mostCommon, mostCommon + 1, mostCommon + 2, mostPoints - 1, mostPoints, mostPoints + 1, 2001, 1 << 32, 1<<32 + 1, -1 << 32, math.MaxInt64, math.MaxInt64 - 1, math.MinInt64, math.MinInt64 + 1}
	for _, c := range []impl.Curve{
		evenCurve(0, []int64{1}), evenCurve(1, []int64{1}, []int64{1}), evenCurve(mostCommon, []int64{1}, []int64{1}), evenCurve(3, []int64{2, 3}, []int64{2, 3}, []int64{2, 3}), evenCurve(1, []int64{1}, []int64{2, 5}, []int64{4, 6, 7}),
		evenCurve(mostCommon, slices.Repeat([][]int64{{1}}, mostBranches)...), evenCurve(1, longBranch, []int64{64, 65}), evenCurve(2, []int64{2, 1999}, []int64{2, 1999}), evenCurve(mostCommon, []int64{3, 4}, []int64{3, 4}),
	} {
		checkIsCurve(t, c, true)
		for i := range c.Branches {
			for _, n := range append(outside, 1, mostCommon) {
				if n != 0 {
					checkIsCurve(t, withCommon(c, i, i, n), false)
				}
				for k := range i {
					if n != c.Common[i][k] {
						checkIsCurve(t, withCommon(c, i, k, n), false)
						checkIsCurve(t, withCommon(c, k, i, n), false)
					}
					if slices.Contains(outside, n) {
						checkIsCurve(t, withBoth(c, i, k, n), false)
					}
				}
			}
		}
	}
	for _, common := range []int64{1, 2, 3, 100, mostCommon - 1, mostCommon} {
		checkIsCurve(t, evenCurve(common, []int64{1}, []int64{1}), true)
		if n, code := impl.IntersectionNumber(evenCurve(common, []int64{1}, []int64{1}), 1, 0); n != common || code != impl.ErrNone {
			t.Errorf("smooth branches with %d points in common have the intersection number %d, %d", common, n, code)
		}
	}
}

// TestMaxBranches checks curves with MaxBranches branches and with one more.
func TestMaxBranches(t *testing.T) {
	for _, terms := range [][]int64{{1}, {2, 3}, {4, 6, 7}} {
		for _, common := range []int64{1, 9, mostCommon} {
			for count := 1; count <= mostBranches; count++ {
				checkIsCurve(t, evenCurve(common, slices.Repeat([][]int64{terms}, count)...), true)
			}
			for _, count := range []int{0, mostBranches + 1, mostBranches + 2, 400} {
				checkIsCurve(t, evenCurve(common, slices.Repeat([][]int64{terms}, count)...), false)
			}
		}
	}
}

// TestNextPoints checks branches behind their last common point: satellites with the same number, with different ones,
// and one of them free; and codes that differ at the last common point, or before.
func TestNextPoints(t *testing.T) {
	for _, c := range []struct {
		p, q   []int64
		common []int64
	}{
		// The codes of the cusp and of the smooth branch differ at the point 2.
		{[]int64{2, 3}, []int64{1}, []int64{1, 2}}, {[]int64{2, 3}, []int64{2, 3}, []int64{1, 3, 4, 5, 6, 7, 8}}, {[]int64{2, 5}, []int64{1}, []int64{1, 2, 3}}, {[]int64{2, 5}, []int64{2, 3}, []int64{1, 2}}, {[]int64{2, 5}, []int64{2, 5}, []int64{1, 2, 4, 5, 6, 7, 8}},
		// {0, 2, 3}, {0, 2, 2} and {0, 2, 0} behind the points 0 to 2.
		{[]int64{3, 4}, []int64{3, 5}, []int64{1, 3}}, {[]int64{3, 4}, []int64{2, 3}, []int64{1, 3}}, {[]int64{3, 5}, []int64{2, 3}, []int64{1, 3}}, {[]int64{3, 4}, []int64{3, 4}, []int64{1, 4, 5, 6, 7, 8}}, {[]int64{3, 5}, []int64{3, 5}, []int64{1, 4, 5, 6, 7, 8}},
		// {0, 2, 0, 2} and {0, 2, 0, 0, 2}.
		{[]int64{4, 6, 7}, []int64{2, 3}, []int64{1, 3, 4}}, {[]int64{4, 6, 7}, []int64{4, 6, 9}, []int64{1, 3, 4}}, {[]int64{4, 6, 9}, []int64{2, 3}, []int64{1, 3, 4, 5}}, {[]int64{4, 6, 7}, []int64{4, 6, 7}, []int64{1, 3, 5, 6, 7, 8}}, {[]int64{4, 6, 7}, []int64{3, 4}, []int64{1, 3}},
		// {0, 2, 3, 4}, {0, 2, 3, 2}, {0, 2, 2, 3} and {0, 2, 2, 2}.
		{[]int64{4, 5}, []int64{3, 4}, []int64{1, 4}}, {[]int64{4, 5}, []int64{5, 7}, []int64{1, 4}}, {[]int64{4, 7}, []int64{5, 8}, []int64{1, 4}}, {[]int64{4, 7}, []int64{4, 5}, []int64{1, 3}}, {[]int64{4, 7}, []int64{3, 5}, []int64{1, 4}}, {[]int64{5, 8}, []int64{5, 7}, []int64{1, 3}}, {[]int64{4, 5}, []int64{4, 5}, []int64{1, 5, 6, 7, 8}}, {[]int64{5, 6}, []int64{4, 5}, []int64{1, 5}}, {[]int64{5, 7}, []int64{3, 5}, []int64{1, 3}}, {[]int64{5, 7}, []int64{3, 4}, []int64{1, 4}},
		{[]int64{1}, []int64{1}, []int64{1, 2, 3, 4, 5, 6, 7, 8}}, {[]int64{2, 13}, []int64{1}, []int64{1, 2, 3, 4, 5, 6, 7}}, {[]int64{2, 13}, []int64{2, 11}, []int64{1, 2, 3, 4, 5, 6}},
	} {
		for common := int64(1); common <= 8; common++ {
			want := slices.Contains(c.common, common)
			if canShare(c.p, c.q, common) != want {
				t.Errorf("%v and %v can have %d points in common: %v", c.p, c.q, common, !want)
			}
			checkIsCurve(t, evenCurve(common, c.p, c.q), want)
			checkIsCurve(t, evenCurve(common, c.q, c.p), want)
			// Three branches, of which two are the same ones.
			if canShare(c.p, c.p, 8) && canShare(c.q, c.q, 8) {
				d := withBoth(evenCurve(common, c.p, c.q, c.p), 0, 2, 8)
				checkIsCurve(t, d, want)
			}
		}
	}
	// The last numbers of codes that are in reach: the satellites at the points 199, 200 and 201 of these branches.
	for point := int64(199); point <= 201; point++ {
		terms := []int64{2, 2*point - 1}
		for common := int64(195); common <= mostCommon; common++ {
			checkIsCurve(t, evenCurve(common, terms, []int64{1}), common <= point)
			checkIsCurve(t, evenCurve(common, terms, terms), common != point)
			checkIsCurve(t, evenCurve(common, terms, []int64{2, 1999}), common <= point)
		}
	}
}

// TestCommonPointsOfPairs checks all numbers of common points of two branches against the definition.
func TestCommonPointsOfPairs(t *testing.T) {
	r := rand.New(rand.NewSource(96))
	results := map[bool]int{}
	check := func(p, q []int64, common int64) {
		want := canShare(p, q, common)
		results[want]++
		if impl.IsCurve(evenCurve(common, p, q)) != want {
			t.Errorf("two branches %v and %v with %d points in common are a curve: %v", p, q, common, !want)
		}
	}
	small := branchesWithin(7, 16)
	for n, p := range small {
		for k, q := range small[:n+1] {
			for common := int64(1); common <= 14; common++ {
				if common < 9 || (n+k)%9 == 0 {
					check(p, q, common)
				}
			}
		}
	}
	wide := slices.Concat(pointBranches(), [][]int64{{2, 397}, {2, 399}, {2, 401}, {2, 403}, {3, 598}, {3, 599}, {3, 601}})
	for range 8000 {
		p, q := wide[r.Intn(len(wide))], wide[r.Intn(len(wide))]
		if r.Intn(3) == 0 {
			q = p
		}
		common := 1 + r.Int63n(mostCommon)
		if n := int64(len(pointsOfTerms(p).sequence)); r.Intn(2) == 0 && n > 1 {
			common = 1 + r.Int63n(min(n, mostCommon))
		}
		check(p, q, common)
	}
	if results[true] < 8000 || results[false] < 8000 {
		t.Errorf("results are %v", results)
	}
}

// TestThreeBranches checks three branches of which two have fewer points in common than they must, at all places.
func TestThreeBranches(t *testing.T) {
	counts := map[bool]int{}
	for _, terms := range [][]int64{{1}, {2, 1999}} {
		allLists(3, 1, 4, func(numbers []int64) {
			if len(numbers) < 3 {
				return
			}
			sorted := slices.Clone(numbers)
			slices.Sort(sorted)
			want := sorted[0] == sorted[1]
			counts[want]++
			c := evenCurve(1, terms, terms, terms)
			for n, common := range numbers {
				c = withBoth(c, n/2, 1+(n+1)/2, common)
			}
			checkIsCurve(t, c, want)
			// With further branches in front, in between or behind, that part at once.
			for count := 4; count <= mostBranches; count++ {
				for _, list := range [][]int64{{0, 1, 2}, {1, 2, 3}, {0, 2, 3}, {0, 1, 3}, {int64(count - 3), int64(count - 2), int64(count - 1)}, {int64(count - 1), 0, 2}} {
					d := evenCurve(1, slices.Repeat([][]int64{terms}, count)...)
					for n, common := range numbers {
						d = withBoth(d, int(list[n/2]), int(list[1+(n+1)/2]), common)
					}
					checkIsCurve(t, d, want)
				}
			}
		})
	}
	if counts[true] != 2*(4+3*6) || counts[false] != 2*(64-22) {
		t.Errorf("numbers of curves are %v", counts)
	}
	// The least number of points that are missing, next to MaxCommon.
	c := evenCurve(mostCommon, []int64{1}, []int64{1}, []int64{1})
	for i := range 3 {
		for k := range i {
			checkIsCurve(t, withBoth(c, i, k, mostCommon-1), false)
			checkIsCurve(t, withBoth(withBoth(c, i, k, mostCommon-1), 3-i-k, i, mostCommon-1), true)
			checkIsCurve(t, withBoth(withBoth(c, i, k, 1), 3-i-k, i, 2), false)
		}
	}
}

// TestShortMatrices checks all matrices of small numbers with two branches, and with three if they are symmetric.
func TestShortMatrices(t *testing.T) {
	counts := map[int]int{}
	check := func(c impl.Curve) {
		want := slowIsCurve(c)
		if impl.IsCurve(c) != want {
			t.Errorf("IsCurve(%v) is %v", c, !want)
		}
		if want {
			counts[len(c.Branches)]++
		}
	}
	few := [][]int64{{1}, {2, 3}, {2, 5}, {3, 4}, {4, 6, 7}, {2, 4}}
	for _, p := range few {
		for n := int64(-2); n <= 3; n++ {
			check(curve([][]int64{p}, [][]int64{{n}}))
		}
		for _, q := range few {
			allLists(4, -1, 4, func(list []int64) {
				if len(list) == 4 {
					check(curve([][]int64{p, q}, [][]int64{list[:2], list[2:]}))
				}
			})
			for _, s := range few {
				allLists(3, -1, 5, func(n []int64) {
					if len(n) == 3 {
						check(curve([][]int64{p, q, s}, [][]int64{{0, n[0], n[1]}, {n[0], 0, n[2]}, {n[1], n[2], 0}}))
					}
				})
			}
		}
	}
	if counts[1] != 5 || counts[2] < 50 || counts[3] < 500 {
		t.Errorf("numbers of curves are %v", counts)
	}
}

// TestSpoiltCurves checks curves in which one or two numbers are replaced, on one side of the diagonal or on both, or
// the terms of a branch.
func TestSpoiltCurves(t *testing.T) {
	r := rand.New(rand.NewSource(97))
	results := map[bool]int{}
	for n := range 20000 {
		c := randomCurve(r, 2+r.Intn(mostBranches-1), []int64{2, 4, 8, 20}[n%4], n%11)
		count := len(c.Branches)
		for range 1 + r.Intn(2) {
			i, k := r.Intn(count), r.Intn(count)
			common := []int64{c.Common[i][k] + 1, c.Common[i][k] - 1, r.Int63n(9), 1 + r.Int63n(3)}[r.Intn(4)]
			switch r.Intn(8) {
			case 0:
				c = withCommon(c, i, k, common)
			case 1:
				c.Branches[i] = branch([][]int64{{1}, {2, 3}, {2, 5}, {3, 4}, {3, 5}, {4, 6, 7}, {2, 4}}[r.Intn(7)]...)
			default:
				if i != k {
					c = withBoth(c, i, k, common)
				}
			}
		}
		ok := slowIsCurve(c)
		results[ok]++
		if impl.IsCurve(c) != ok {
			t.Errorf("IsCurve(%v) is %v", c, !ok)
		}
		if n, code := impl.CurveMultiplicity(c); (code == impl.ErrNone) != ok || (code == impl.ErrInvalid) == ok || (n > 0) != ok {
			t.Errorf("CurveMultiplicity(%v) = %d, %d", c, n, code)
		}
	}
	if results[true] < 3000 || results[false] < 3000 {
		t.Errorf("there are so many curves: %v", results)
	}
}

// wrongShapes returns what is no curve because of the lengths of its lists.
func wrongShapes() []impl.Curve {
	one, two, three := evenCurve(0, []int64{1}), evenCurve(2, []int64{1}, []int64{2, 3}), evenCurve(3, []int64{2, 3}, []int64{2, 3}, []int64{2, 3})
	list := []impl.Curve{
		{}, {Branches: []impl.Branch{}, Common: [][]int64{}}, curve(nil, [][]int64{{}}), curve(nil, [][]int64{{0}}), curve([][]int64{{1}}, nil), curve([][]int64{{1}}, [][]int64{{}}), curve([][]int64{{1}}, [][]int64{{0, 0}}), curve([][]int64{{1}}, [][]int64{{0}, {0}}),
		curve([][]int64{{1}}, [][]int64{{0}, {}}), curve([][]int64{{1}}, [][]int64{{0, 1}, {1, 0}}), curve([][]int64{{1}, {1}}, [][]int64{{0}}), curve([][]int64{{1}, {1}}, nil), curve([][]int64{{1}, {1}}, [][]int64{{}, {}}), curve([][]int64{{1}, {1}}, [][]int64{nil, nil}),
		evenCurve(1, slices.Repeat([][]int64{{1}}, mostBranches+1)...), evenCurve(1, slices.Repeat([][]int64{{2, 3}}, 40)...), curve(slices.Repeat([][]int64{{1}}, mostBranches+1), evenCurve(1, slices.Repeat([][]int64{{1}}, mostBranches)...).Common),
		curve(slices.Repeat([][]int64{{1}}, 2000), nil), curve([][]int64{{1}}, slices.Repeat([][]int64{{0}}, 2000)), curve([][]int64{{1}}, [][]int64{repeated(0, 2000)}),
	}
	for _, c := range []impl.Curve{one, two, three} {
		for i := range c.Branches {
			// A branch, a row or a number less, and one more, also of the diagonal.
			list = append(list, curve(slices.Delete(termsOf(c), i, i+1), c.Common), curve(slices.Insert(termsOf(c), i, []int64{1}), c.Common))
			list = append(list, curve(termsOf(c), slices.Delete(copyLists(c.Common), i, i+1)), curve(termsOf(c), slices.Insert(copyLists(c.Common), i, slices.Clone(c.Common[i]))))
			for k := range c.Branches {
				shorter, longer := copyCurve(c), copyCurve(c)
				shorter.Common[i] = slices.Delete(shorter.Common[i], k, k+1)
				longer.Common[i] = slices.Insert(longer.Common[i], k, 1)
				list = append(list, shorter, longer)
			}
			empty := copyCurve(c)
			empty.Common[i] = nil
			list = append(list, empty)
		}
	}
	return list
}

// invalidCurves returns what is no curve: by the lengths of lists, by branches that are none, by wrong numbers of common
// points, and by branches that cannot have so many in common.
func invalidCurves() []impl.Curve {
	list := wrongShapes()
	for n, terms := range invalidBranches() {
		list = append(list, curve([][]int64{terms}, [][]int64{{0}}))
		if n%5 == 0 {
			list = append(list, evenCurve(1, terms, []int64{1}), evenCurve(1, []int64{2, 3}, terms), evenCurve(1, []int64{1}, []int64{2, 3}, terms), evenCurve(0, terms, []int64{1}))
		}
	}
	for _, c := range []impl.Curve{evenCurve(0, []int64{2, 3}), evenCurve(2, []int64{1}, []int64{2, 3}), evenCurve(3, []int64{2, 3}, []int64{2, 3}, []int64{2, 3})} {
		for i := range c.Branches {
			for _, n := range []int64{1, -1, 2, mostCommon, mostCommon + 1, 1 << 32, math.MaxInt64, math.MinInt64} {
				list = append(list, withCommon(c, i, i, n))
			}
			for k := range i {
				for _, n := range []int64{0, -1, mostCommon + 1, 1 << 32, 1<<32 + 1, math.MaxInt64, math.MinInt64, math.MinInt64 + 1} {
					list = append(list, withBoth(c, i, k, n), withCommon(c, i, k, n), withCommon(c, k, i, n))
				}
				list = append(list, withCommon(c, i, k, 1), withCommon(c, k, i, 1), withCommon(c, i, k, c.Common[i][k]+1))
			}
		}
	}
	smooth := evenCurve(2, []int64{1}, []int64{1}, []int64{1})
	return append(list,
		// Codes that differ, and satellites with the same number.
		evenCurve(3, []int64{2, 3}, []int64{1}), evenCurve(mostCommon, []int64{2, 3}, []int64{1}), evenCurve(2, []int64{2, 3}, []int64{2, 3}), evenCurve(3, []int64{2, 5}, []int64{2, 3}), evenCurve(2, []int64{3, 4}, []int64{3, 5}), evenCurve(4, []int64{3, 4}, []int64{3, 5}),
		evenCurve(2, []int64{4, 6, 7}, []int64{2, 3}), evenCurve(5, []int64{4, 6, 7}, []int64{2, 3}), evenCurve(4, []int64{4, 6, 7}, []int64{4, 6, 7}), evenCurve(mostCommon, longBranch, []int64{64, 65}), evenCurve(2, longBranch, longBranch),
		// Three branches of which two have fewer points in common than they must.
		withBoth(smooth, 0, 1, 1), withBoth(smooth, 0, 2, 1), withBoth(smooth, 1, 2, 1), withBoth(withBoth(smooth, 0, 1, 1), 1, 2, 3), withBoth(withBoth(smooth, 0, 2, 1), 1, 2, 3), withBoth(withBoth(smooth, 0, 2, 4), 0, 1, 3),
	)
}

// wrongPermutations returns lists that are no permutations of 0..count - 1.
func wrongPermutations(count int) [][]int64 {
	p := make([]int64, count)
	for i := range p {
		p[i] = int64(count - 1 - i)
	}
	list := [][]int64{nil, {}, p[:count-1], p[1:], append(slices.Clone(p), int64(count)), append(slices.Clone(p), 0), append([]int64{-1}, p...), repeated(0, 5000), repeated(0, mostBranches+1), repeated(-1, count), repeated(int64(count), count)}
	for i := range p {
		for _, n := range []int64{-1, -2, -int64(count), int64(count), int64(count) + 1, mostBranches, 1 << 32, 1<<32 + p[i], -1<<32 + p[i], math.MaxInt64, math.MinInt64} {
			list = append(list, slices.Replace(slices.Clone(p), i, i+1, n))
		}
		for _, n := range p {
			if n != p[i] {
				list = append(list, slices.Replace(slices.Clone(p), i, i+1, n))
			}
		}
	}
	return slices.DeleteFunc(list, func(q []int64) bool {
		sorted := slices.Clone(q)
		slices.Sort(sorted)
		slices.Reverse(sorted)
		return slices.Equal(sorted, p)
	})
}

// wrongPartLists returns lists that are not lists of branches of a part.
func wrongPartLists(count int) [][]int64 {
	last := int64(count - 1)
	list := [][]int64{nil, {}, {-1}, {-2}, {last + 1}, {last + 2}, {mostBranches}, {0, 0}, {last, last}, {-1, 0}, {0, last + 1}, {last, last + 1}, {-1, 0, last}, {1 << 32}, {-1 << 32}, {1<<32 + last}, {0, 1 << 32}, {math.MaxInt64}, {math.MinInt64}, {0, math.MaxInt64}, {math.MinInt64, 0}, {math.MinInt64, math.MaxInt64}, repeated(0, 5000), repeated(0, count+1)}
	ramp := make([]int64, 3000)
	for i := range ramp {
		ramp[i] = int64(i)
	}
	list = append(list, ramp, ramp[:count+1])
	if count > 1 {
		list = append(list, []int64{last, 0}, []int64{1, 0}, []int64{0, 1, 0}, []int64{0, 1, 1}, []int64{0, 0, 1}, []int64{last, last - 1})
	}
	return list
}

// TestInvalidCurves checks that all functions refuse what is no curve, also with numbers and lists that are out of their
// ranges.
func TestInvalidCurves(t *testing.T) {
	for _, c := range invalidCurves() {
		if slowIsCurve(c) {
			t.Fatalf("%v is a curve", c)
		}
		checkIsCurve(t, c, false)
		for name, f := range ownCurveFunctions() {
			checkCurve(t, name, f, c, nil, impl.ErrInvalid)
		}
		for _, i := range []int64{0, 1, -1, int64(len(c.Branches)), math.MaxInt64, math.MinInt64} {
			checkCurve(t, "IntersectionNumber", meetingOf(0, i), c, nil, impl.ErrInvalid)
			checkCurve(t, "IntersectionNumber", meetingOf(i, 1), c, nil, impl.ErrInvalid)
		}
		for _, list := range [][]int64{nil, {0}, {0, 1}, {1, 0}, {0, 0}, {0, 1, 2}, {2, 0, 1}, {-1}, {1}, {math.MaxInt64}, repeated(0, 100)} {
			checkCurve(t, "RenumberCurve", renumberedBy(t, list), c, nil, impl.ErrInvalid)
			checkCurve(t, "PartOfCurve", partWith(t, list), c, nil, impl.ErrInvalid)
		}
	}
	// Also without spare capacity, and without lists at all.
	if impl.IsCurve(impl.Curve{}) || impl.IsCurve(impl.Curve{Branches: make([]impl.Branch, 1), Common: make([][]int64, 1)}) {
		t.Errorf("nothing is a curve")
	}
}

// TestIntersectionNumbers checks numbers of branches of -1, of r and equal ones, also beyond all integers that exist.
func TestIntersectionNumbers(t *testing.T) {
	r := rand.New(rand.NewSource(98))
	for _, text := range []string{"(1)", "(2;3)", "(1) (1)|1", "(2;3) (1)|2", "(2;3) (1) (1)|1 2 1", "(2;3) (2;3) (2;3) (2;3) (2;3) (2;3)|3 3 3 3 3 3 3 3 3 3 3 3 3 3 3"} {
		c := grammarCurve(text)
		count := int64(len(c.Branches))
		outside := []int64{-1, -2, -count, count, count + 1, mostBranches, 1 << 32, 1<<32 + 1, -1 << 32, -1<<32 + 1, math.MaxInt64, math.MaxInt64 - 1, math.MinInt64, math.MinInt64 + 1}
		for _, i := range outside {
			for k := range count {
				checkCurve(t, "IntersectionNumber", meetingOf(i, k), c, nil, impl.ErrRange)
				checkCurve(t, "IntersectionNumber", meetingOf(k, i), c, nil, impl.ErrRange)
			}
			for _, k := range outside {
				checkCurve(t, "IntersectionNumber", meetingOf(i, k), c, nil, impl.ErrRange)
			}
		}
		for i := range count {
			checkCurve(t, "IntersectionNumber", meetingOf(i, i), c, nil, impl.ErrRange)
		}
	}
	// Numbers are symmetric, and do not depend on further branches.
	for range 300 {
		c := randomCurve(r, 3+r.Intn(4), 9, 7)
		i, k := r.Intn(len(c.Branches)), r.Intn(len(c.Branches))
		if i == k {
			continue
		}
		x, code := impl.IntersectionNumber(c, int64(i), int64(k))
		y, _ := impl.IntersectionNumber(c, int64(k), int64(i))
		z, _ := impl.IntersectionNumber(slowPart(c, []int64{int64(k), int64(i)}), 0, 1)
		if x == 0 || x != y || x != z || code != impl.ErrNone {
			t.Errorf("IntersectionNumber(%v, %d, %d) = %d, %d, the other way %d, alone %d", c, i, k, x, code, y, z)
		}
	}
}

// TestLengths checks lengths that the sequence of a branch gives, and those that its common points give.
func TestLengths(t *testing.T) {
	r := rand.New(rand.NewSource(99))
	numbers := map[string]int{}
	for n := range 1200 {
		c := randomCurve(r, 1+r.Intn(mostBranches), []int64{3, 8, 30, mostCommon}[n%4], n%11)
		want := make([]int64, len(c.Branches))
		for i, b := range c.Branches {
			want[i], _ = impl.CountBranchPoints(b)
			name := "by its sequence"
			for _, common := range c.Common[i] {
				if common == want[i] && name == "by its sequence" {
					name = "by both"
				}
				if common > want[i] {
					want[i], name = common, "by common points"
				}
			}
			numbers[name]++
		}
		checkCurve(t, "LengthsOf", ownCurveFunctions()["LengthsOf"], c, [][]int64{want}, impl.ErrNone)
	}
	if numbers["by its sequence"] < 1000 || numbers["by both"] < 100 || numbers["by common points"] < 500 {
		t.Errorf("lengths are given %v", numbers)
	}
	for _, c := range []struct {
		text string
		want []int64
	}{
		{"(1)", []int64{1}}, {"(2;3) (1)|1", []int64{3, 1}}, {"(2;3) (1)|2", []int64{3, 2}}, {"(2;3) (2;3)|3", []int64{3, 3}}, {"(2;3) (2;3)|4", []int64{4, 4}}, {"(1) (1)|200", []int64{200, 200}}, {"(2;1999) (1)|200", []int64{1001, 200}}, {"(2;1999) (1)|1", []int64{1001, 1}},
		{"(2;3) (2;3) (1)|7 1 1", []int64{7, 7, 1}}, {"(2;3) (1) (1)|2 2 7", []int64{3, 7, 7}}, {"(2;3) (1) (1)|2 2 2", []int64{3, 2, 2}}, {"(64;65) (64;65)|66", []int64{66, 66}}, {"(64;65) (64;65)|65", []int64{65, 65}}, {"(63;2000) (1)|32", []int64{50, 32}}, {"(2;399)", []int64{201}}, {"(2;797)", []int64{400}}, {"(2;799)", []int64{401}},
	} {
		if given := grammarCurve(c.text); len(given.Branches) > 0 {
			checkCurve(t, "LengthsOf", ownCurveFunctions()["LengthsOf"], given, [][]int64{c.want}, impl.ErrNone)
		} else {
			t.Errorf("%q is no text", c.text)
		}
	}
}

// TestDeltasOfClusters checks the first part of promise 9: the delta invariant of a curve is that of its cluster.
func TestDeltasOfClusters(t *testing.T) {
	clusters, large := 0, 0
	for _, c := range append(smallCurves(), someCurves()...) {
		cluster, code := impl.CurveCluster(c)
		if code == impl.ErrLimit {
			continue
		}
		delta, _ := impl.CurveDelta(c)
		if n, deltaCode := impl.DeltaOfCluster(cluster); n != delta || code != impl.ErrNone || deltaCode != impl.ErrNone {
			t.Errorf("%v has the delta invariant %d, its cluster %v, %d has %d, %d", c, delta, cluster, code, n, deltaCode)
		}
		if consistent, _ := impl.IsConsistent(cluster); !consistent {
			t.Errorf("the cluster %v of %v is not consistent", cluster, c)
		}
		clusters++
		if len(cluster.Weights) > 16 {
			large++
		}
	}
	if clusters < 2500 || large < 100 {
		t.Errorf("only %d curves have clusters, and %d large ones", clusters, large)
	}
}

// allParts calls f with all lists of branches that are neither empty nor whole, and with those of the other branches.
func allParts(count int, f func(part, rest []int64)) {
	for chosen := 1; chosen < 1<<count-1; chosen++ {
		var lists [2][]int64
		for i := range count {
			lists[chosen>>i&1] = append(lists[chosen>>i&1], int64(i))
		}
		f(lists[1], lists[0])
	}
}

// TestMilnorNumbersOfParts checks the second part of promise 9: the Milnor number of a curve is that of a part and that
// of the other one, plus twice the intersection numbers between both, less 1. Delta invariants and multiplicities of
// parts add up, too.
func TestMilnorNumbersOfParts(t *testing.T) {
	count := 0
	for n, c := range someCurves() {
		if n%3 != 0 && len(c.Branches) > 4 {
			continue
		}
		milnor, code := impl.CurveMilnor(c)
		delta, _ := impl.CurveDelta(c)
		multiplicity, _ := impl.CurveMultiplicity(c)
		numbers := make([][]int64, len(c.Branches))
		for i := range numbers {
			numbers[i] = make([]int64, len(c.Branches))
			for k := range numbers {
				numbers[i][k], _ = impl.IntersectionNumber(c, int64(i), int64(k))
			}
		}
		allParts(len(c.Branches), func(part, rest []int64) {
			between := int64(0)
			for _, i := range part {
				for _, k := range rest {
					between += numbers[i][k]
				}
			}
			sums := [3]int64{2*between - 1, between, 0}
			for _, list := range [][]int64{part, rest} {
				d, partCode := impl.PartOfCurve(c, list)
				for m, f := range []func(c impl.Curve) (int64, int64){impl.CurveMilnor, impl.CurveDelta, impl.CurveMultiplicity} {
					x, code := f(d)
					sums[m] += x
					if code != impl.ErrNone || partCode != impl.ErrNone {
						t.Errorf("the part %v of %v is %v, %d", list, c, d, partCode)
					}
				}
			}
			if sums != [3]int64{milnor, delta, multiplicity} || code != impl.ErrNone {
				t.Errorf("%v has %d, %d and %d, %d; its parts %v and %v, which meet %d times, make %v", c, milnor, delta, multiplicity, code, part, rest, between, sums)
			}
			count++
		})
	}
	if count < 10000 {
		t.Errorf("there are only %d parts", count)
	}
}

// TestClusterLimits checks clusters of MaxCluster points and of one more, where a sequence, common points or further
// branches have them.
func TestClusterLimits(t *testing.T) {
	check := func(c impl.Curve, count int64) {
		t.Helper()
		facts := slowCurveFacts(c)
		if len(facts.leaving) > 0 != (count <= mostCluster) || len(facts.leaving) > 0 && int64(len(facts.cluster.Weights)) != count {
			t.Errorf("%v has the cluster %v; wanted %d points", c, facts.cluster, count)
		}
		checkCurveFacts(t, c, facts)
	}
	for count := int64(mostCluster - 1); count <= mostCluster+2; count++ {
		check(evenCurve(0, []int64{2, 2*count - 3}), count)
		check(evenCurve(0, []int64{count - 1, count}), count)
		check(evenCurve(count, []int64{1}, []int64{1}), count)
		check(evenCurve(count, slices.Repeat([][]int64{{1}}, mostBranches)...), count)
		check(evenCurve(count, []int64{4, 6, 7}, []int64{4, 6, 7}), count)
		check(withBoth(evenCurve(1, []int64{1}, []int64{1}, []int64{1}), 1, 2, count), count)
		// Three cusps with one point in common have seven points, and further branches those behind their common ones.
		check(evenCurve(1, []int64{2, 3}, []int64{2, 3}, []int64{2, 3}, []int64{2, 2*count - 15}), 1+2*3+count-7)
		check(evenCurve(1, []int64{2, 2*count - 15}, []int64{2, 3}, []int64{2, 3}, []int64{2, 3}), 1+2*3+count-7)
		check(evenCurve(3, []int64{2, 2*count - 9}, []int64{2, 7}, []int64{1}, []int64{2, 9}), 3+count-6+2+3)
	}
	// Each branch alone is within the limit, but not all together.
	for n := range 4 {
		check(evenCurve(1, slices.Repeat([][]int64{{5, 6}}, n+1)...), int64(1+5*(n+1)))
	}
	check(evenCurve(1, slices.Repeat([][]int64{{5, 6}}, 5)...), 26)
	check(evenCurve(1, []int64{5, 6}, []int64{5, 6}, []int64{5, 6}, []int64{5, 6}, []int64{3, 4}), 24)
	check(evenCurve(1, []int64{5, 6}, []int64{5, 6}, []int64{5, 6}, []int64{5, 6}, []int64{4, 5}), 25)
}

// countOf returns how many numbers of a list are n.
func countOf(list []int64, n int64) int64 {
	var count int64
	for _, m := range list {
		if m == n {
			count++
		}
	}
	return count
}

// TestLeavingPoints checks that the excesses of the cluster of a curve are the numbers of branches that leave at its
// points, that the branches at these are those of the curve, and that the curve of the cluster is the curve with its
// branches in the order of their leaving points.
func TestLeavingPoints(t *testing.T) {
	curves, numbers := 0, map[string]int{}
	for _, c := range append(smallCurves(), someCurves()...) {
		leaving, code := impl.LeavingPoints(c)
		if code == impl.ErrLimit {
			numbers["too many points"]++
			continue
		}
		cluster, _ := impl.CurveCluster(c)
		excesses, _ := impl.ExcessesOf(cluster)
		for point, excess := range excesses {
			if excess != countOf(leaving, int64(point)) {
				t.Errorf("%v has the cluster %v with the excesses %v, and the leaving points %v", c, cluster, excesses, leaving)
			}
		}
		var order []int64
		for point := range excesses {
			for i, other := range leaving {
				if other == int64(point) {
					order = append(order, int64(i))
				}
			}
		}
		want, _ := curveAsLists(slowPart(c, order), 0)
		checkCluster(t, "CurveOfCluster", ofCluster, cluster, want, impl.ErrNone)
		for i, point := range leaving {
			b, _ := impl.BranchAtPoint(cluster, point)
			if !slices.Equal(b.Terms, c.Branches[i].Terms) {
				t.Errorf("the branch at the point %d of %v is %v; wanted that of %v", point, cluster, b, c)
			}
		}
		curves++
		if !slices.IsSorted(order) {
			numbers["in another order"]++
		}
		if slices.Max(excesses) > 1 {
			numbers["several at a point"]++
		}
		if slices.ContainsFunc(leaving, func(point int64) bool { return slices.Contains(cluster.Parents, point) }) {
			numbers["not at an end"]++
		}
	}
	if curves < 2500 || numbers["in another order"] < 400 || numbers["several at a point"] < 400 || numbers["not at an end"] < 400 || numbers["too many points"] < 250 {
		t.Errorf("%d curves have leaving points, numbers are %v", curves, numbers)
	}
}

// ofCluster is CurveOfCluster with its result in lists.
func ofCluster(c impl.Cluster) ([][]int64, int64) { return copiedCurve(impl.CurveOfCluster(c)) }

// slowCurveOfCluster returns the curve of a cluster, or a code. The branches at its points have the weights of simple
// clusters on their paths as multiplicities.
func slowCurveOfCluster(c impl.Cluster) (impl.Curve, int64) {
	proximates := proximatesOfCluster(c)
	excesses := excessesByLists(proximates, c.Weights)
	if slices.Min(excesses) < 0 {
		return impl.Curve{}, impl.ErrState
	}
	var ends []int64
	for i, excess := range excesses {
		for range min(excess, mostBranches+1) {
			ends = append(ends, int64(i))
		}
	}
	if len(ends) == 0 || len(ends) > mostBranches {
		return impl.Curve{}, impl.ErrLimit
	}
	var d impl.Curve
	for _, end := range ends {
		path := slowPath(c, end)
		var multiplicities, row []int64
		for _, point := range path {
			multiplicities = append(multiplicities, countPaths(proximates, end, point))
		}
		if multiplicities[0] > mostN {
			return impl.Curve{}, impl.ErrState
		}
		for _, other := range ends {
			var common int64
			for _, point := range slowPath(c, other) {
				common += countOf(path, point)
			}
			row = append(row, common)
		}
		row[len(d.Branches)] = 0
		d.Branches, d.Common = append(d.Branches, branch(slowBranchOfSequence(multiplicities)...)), append(d.Common, row)
	}
	return d, impl.ErrNone
}

// fewBranches returns consistent clusters with up to seven branches.
func fewBranches() []impl.Cluster {
	r := rand.New(rand.NewSource(100))
	var clusters []impl.Cluster
	add := func(proximates [][]int64, excesses []int64) {
		if weights := weightsByExcesses(proximates, excesses); slices.Max(weights) <= mostWeight {
			clusters = append(clusters, clusterWith(proximates, weights))
		}
	}
	for count := 1; count <= 4; count++ {
		for _, proximates := range allPointSets(count) {
			allLists(count, 0, 3, func(excesses []int64) {
				if len(excesses) == count {
					add(proximates, excesses)
				}
			})
		}
	}
	for n := range 3000 {
		c := randomCluster(r, 1+r.Intn(mostCluster), n%11, 3+n%7, 1)
		excesses := repeated(0, len(c.Weights))
		for range 1 + r.Intn(mostBranches) {
			excesses[r.Intn(len(excesses))]++
		}
		add(proximatesOfCluster(c), excesses)
	}
	return clusters
}

// TestCurvesOfClusters checks curves of consistent clusters: branches and numbers of common points against paths, and
// intersection numbers against products of simple clusters.
func TestCurvesOfClusters(t *testing.T) {
	codes, counts := map[int64]int{}, map[int]int{}
	for _, c := range fewBranches() {
		want, code := slowCurveOfCluster(c)
		codes[code]++
		lists, _ := curveAsLists(want, 0)
		checkCluster(t, "CurveOfCluster", ofCluster, c, lists, code)
		if code != impl.ErrNone {
			continue
		}
		counts[len(want.Branches)]++
		checkIsCurve(t, want, true)
		factors, _ := impl.FactorsOf(c)
		var simple []impl.Cluster
		for _, factor := range factors {
			for range factor[1] {
				d, _ := impl.SimpleCluster(c, factor[0])
				simple = append(simple, d)
			}
		}
		for i := range simple {
			for k := range i {
				product, _ := impl.MultiplyClusters(simple[i], simple[k])
				checkCurve(t, "IntersectionNumber", meetingOf(int64(i), int64(k)), want, [][]int64{{product}}, impl.ErrNone)
			}
		}
		delta, _ := impl.DeltaOfCluster(c)
		lists, _ = numberAsLists(delta, 0)
		checkCurve(t, "CurveDelta", ownCurveFunctions()["CurveDelta"], want, lists, impl.ErrNone)
		checkCurve(t, "CurveMultiplicity", ownCurveFunctions()["CurveMultiplicity"], want, [][]int64{{c.Weights[0]}}, impl.ErrNone)
	}
	if codes[impl.ErrNone] < 3500 || codes[impl.ErrState] < 60 || codes[impl.ErrLimit] < 500 || len(counts) != mostBranches || counts[1] < 400 || counts[6] < 400 {
		t.Errorf("codes are %v, numbers of branches %v", codes, counts)
	}
}

// TestClustersOfCurvesOfClusters checks that the cluster of the curve of a cluster has the points of its branches, as
// many as their lengths tell, renumbered in the order of their paths.
func TestClustersOfCurvesOfClusters(t *testing.T) {
	whole, cut := 0, 0
	for _, c := range fewBranches() {
		given, code := impl.CurveOfCluster(c)
		if code != impl.ErrNone {
			continue
		}
		proximates, lengths := proximatesOfCluster(c), slowCurveFacts(given).lengths
		var order []int64
		for i, excess := range excessesByLists(proximates, c.Weights) {
			for range excess {
				for _, point := range slowPath(c, int64(i))[:lengths[0]] {
					if !slices.Contains(order, point) {
						order = append(order, point)
					}
				}
				lengths = lengths[1:]
			}
		}
		var renumbered [][]int64
		var weights []int64
		for _, point := range order {
			var list []int64
			for _, i := range proximates[point] {
				list = append(list, int64(slices.Index(order, i)))
			}
			renumbered, weights = append(renumbered, list), append(weights, c.Weights[point])
		}
		want, _ := clusterAsLists(clusterWith(renumbered, weights), 0)
		checkCurve(t, "CurveCluster", ownCurveFunctions()["CurveCluster"], given, want, impl.ErrNone)
		if len(order) == len(c.Weights) {
			whole++
		} else {
			cut++
		}
	}
	if whole < 700 || cut < 2000 {
		t.Errorf("%d clusters come back, %d without some points", whole, cut)
	}
}

// TestCurveOfClusterCases checks clusters without a branch, with six and with more, such whose branches do not exist,
// such that are not consistent, and several of this at once.
func TestCurveOfClusterCases(t *testing.T) {
	three, star, most := twoBefore(3), cluster([]int64{-1, 0, 0, 0}, repeated(-1, 4), repeated(0, 4)), twoBefore(mostCluster)
	mostAt := func(list ...int64) []int64 {
		excesses := repeated(0, mostCluster)
		for _, i := range list {
			excesses[i]++
		}
		return excesses
	}
	for _, c := range []struct {
		c        impl.Cluster
		excesses []int64
		text     string
		code     int64
	}{
		{three, []int64{0, 0, 1}, "(2;3)", 0}, {three, []int64{1, 0, 0}, "(1)", 0}, {three, []int64{0, 1, 0}, "(1)", 0}, {three, []int64{0, 1, 1}, "(1) (2;3)|2", 0}, {three, []int64{1, 1, 1}, "(1) (1) (2;3)|1 1 2", 0}, {three, []int64{0, 0, 2}, "(2;3) (2;3)|3", 0},
		{three, []int64{2, 0, 0}, "(1) (1)|1", 0}, {three, []int64{0, 2, 1}, "(1) (1) (2;3)|2 2 2", 0}, {three, []int64{2, 2, 2}, "(1) (1) (1) (1) (2;3) (2;3)|1 1 1 1 1 1 1 1 1 2 2 2 2 2 3", 0},
		{star, []int64{0, 1, 2, 1}, "(1) (1) (1) (1)|1 1 1 2 1 1", 0}, {star, []int64{0, 2, 2, 2}, "(1) (1) (1) (1) (1) (1)|2 1 1 1 1 1 1 1 1 2 1 1 1 1 2", 0}, {star, []int64{3, 1, 1, 1}, "(1) (1) (1) (1) (1) (1)|1 1 1 1 1 1 1 1 1 1 1 1 1 1 1", 0},
		{three, []int64{6, 0, 0}, "(1) (1) (1) (1) (1) (1)|1 1 1 1 1 1 1 1 1 1 1 1 1 1 1", 0}, {three, []int64{0, 0, 6}, "(2;3) (2;3) (2;3) (2;3) (2;3) (2;3)|3 3 3 3 3 3 3 3 3 3 3 3 3 3 3", 0},
		{rowOfPoints(mostCluster, nil), append(repeated(0, 23), 2), "(1) (1)|24", 0}, {rowOfPoints(mostCluster, nil), append(repeated(0, 22), 1, 1), "(1) (1)|23", 0},
		{cluster([]int64{-1, 0, 1, 2, 2}, []int64{-1, -1, 0, 0, 1}, nil), []int64{0, 0, 0, 1, 1}, "(3;4) (3;5)|3", 0}, {cluster([]int64{-1, 0, 1, 2, 2}, []int64{-1, -1, 0, 1, 0}, nil), []int64{0, 0, 0, 1, 1}, "(3;5) (3;4)|3", 0},
		{grammarCluster("0 0:0 0:1,0 0:2 0:3,2 0:2"), []int64{0, 0, 1, 0, 1, 1}, "(2;3) (4;6,7) (2;3)|3 3 3", 0}, {grammarCluster("0 0:0 0:1,0 0:2 0:3,2 0:3"), []int64{0, 0, 1, 0, 1, 1}, "(2;3) (4;6,7) (2;3)|3 3 4", 0},
		// Multiplicities of 55 and of 89.
		{most, mostAt(9), "(55;89)", 0}, {most, mostAt(9, 9, 9, 9, 9, 9), "(55;89) (55;89) (55;89) (55;89) (55;89) (55;89)|10 10 10 10 10 10 10 10 10 10 10 10 10 10 10", 0}, {most, mostAt(10), "", impl.ErrState}, {most, mostAt(0, 9, 10), "", impl.ErrState}, {most, mostAt(10, 23), "", impl.ErrState},
		{most, mostAt(0, 1, 2, 3, 4, 10), "", impl.ErrState}, {most, mostAt(10, 10, 10, 10, 10, 10), "", impl.ErrState}, {most, mostAt(23), "", impl.ErrState},
		// No branch, and more than six, with and without those that do not exist.
		{three, []int64{0, 0, 0}, "", impl.ErrLimit}, {rowOfPoints(1, nil), []int64{0}, "", impl.ErrLimit}, {most, repeated(0, mostCluster), "", impl.ErrLimit}, {three, []int64{7, 0, 0}, "", impl.ErrLimit}, {three, []int64{0, 0, 7}, "", impl.ErrLimit}, {three, []int64{3, 2, 2}, "", impl.ErrLimit},
		{three, []int64{6, 1, 0}, "", impl.ErrLimit}, {three, []int64{1, 0, 6}, "", impl.ErrLimit}, {rowOfPoints(1, nil), []int64{6}, "(1) (1) (1) (1) (1) (1)|1 1 1 1 1 1 1 1 1 1 1 1 1 1 1", 0}, {rowOfPoints(1, nil), []int64{7}, "", impl.ErrLimit}, {rowOfPoints(1, nil), []int64{mostWeight}, "", impl.ErrLimit},
		{rowOfPoints(7, nil), repeated(1, 7), "", impl.ErrLimit}, {rowOfPoints(6, nil), repeated(1, 6), "(1) (1) (1) (1) (1) (1)|1 1 1 1 1 2 2 2 2 3 3 3 4 4 5", 0}, {rowOfPoints(mostCluster, nil), repeated(1, mostCluster), "", impl.ErrLimit}, {three, []int64{30000, 10000, 20000}, "", impl.ErrLimit},
		{most, mostAt(10, 10, 10, 10, 10, 10, 10), "", impl.ErrLimit}, {most, mostAt(0, 0, 0, 0, 0, 0, 10), "", impl.ErrLimit}, {most, mostAt(0, 0, 0, 0, 0, 10, 23), "", impl.ErrLimit},
		// Not consistent, also with no branch, with too many, and with those that do not exist.
		{three, []int64{-1, 0, 0}, "", impl.ErrState}, {three, []int64{-1, 0, 1}, "", impl.ErrState}, {three, []int64{7, -1, 0}, "", impl.ErrState}, {three, []int64{7, 0, -1}, "", impl.ErrState}, {three, []int64{-1, -1, -1}, "", impl.ErrState}, {rowOfPoints(1, nil), []int64{-1}, "", impl.ErrState},
		{rowOfPoints(1, nil), []int64{-mostWeight}, "", impl.ErrState}, {three, []int64{-30000, 10000, 20000}, "", impl.ErrState}, {most, append([]int64{-1}, mostAt(10, 10)[1:]...), "", impl.ErrState}, {most, append([]int64{-1}, mostAt(10, 10, 10, 10, 10, 10, 10)[1:]...), "", impl.ErrState},
	} {
		proximates := proximatesOfCluster(withWeights(c.c, c.excesses...))
		given := clusterWith(proximates, weightsByExcesses(proximates, c.excesses))
		want := grammarCurve(c.text)
		if (len(want.Branches) == 0) != (c.text == "") || !slowIsCluster(given) {
			t.Fatalf("%q is no text, or %v no cluster", c.text, given)
		}
		lists, _ := curveAsLists(want, 0)
		checkCluster(t, "CurveOfCluster", ofCluster, given, lists, c.code)
		if slow, code := slowCurveOfCluster(given); code != c.code || !sameLists(termsOf(slow), termsOf(want)) || !sameLists(slow.Common, want.Common) {
			t.Errorf("%v has the curve %v, %d; wanted %q, %d", given, slow, code, c.text, c.code)
		}
	}
	for _, c := range invalidClusters() {
		checkCluster(t, "CurveOfCluster", ofCluster, c, nil, impl.ErrInvalid)
	}
	// Clusters that are not consistent, and those with very many branches.
	for _, c := range someClusters() {
		want, code := slowCurveOfCluster(c)
		lists, _ := curveAsLists(want, 0)
		checkCluster(t, "CurveOfCluster", ofCluster, c, lists, code)
	}
}

// allPermutations calls f with all permutations of 0..count - 1.
func allPermutations(count int, f func(p []int64)) {
	allLists(count, 0, int64(count-1), func(p []int64) {
		sorted := slices.Clone(p)
		slices.Sort(sorted)
		if len(slices.Compact(sorted)) == count {
			f(p)
		}
	})
}

// slowRenumbered returns what renumbering makes: the branch i is the branch p(i).
func slowRenumbered(c impl.Curve, p []int64) impl.Curve {
	d := copyCurve(c)
	for i := range c.Branches {
		d.Branches[p[i]] = branch(slices.Clone(c.Branches[i].Terms)...)
		for k := range c.Branches {
			d.Common[p[i]][p[k]] = c.Common[i][k]
		}
	}
	return d
}

// checkRenumbered checks what renumbering makes.
func checkRenumbered(t *testing.T, c impl.Curve, p []int64) impl.Curve {
	t.Helper()
	want := slowRenumbered(c, p)
	lists, _ := curveAsLists(want, 0)
	checkCurve(t, "RenumberCurve", renumberedBy(t, p), c, lists, impl.ErrNone)
	return want
}

// TestRenumberCurve checks all permutations of the branches of curves, that they keep the numbers of the whole, and that
// one behind the other makes what their product makes.
func TestRenumberCurve(t *testing.T) {
	c := grammarCurve("(2;3) (1) (1)|1 2 1")
	for _, given := range []struct {
		p    []int64
		text string
	}{
		{[]int64{2, 0, 1}, "(1) (1) (2;3)|1 1 2"}, {[]int64{0, 1, 2}, "(2;3) (1) (1)|1 2 1"}, {[]int64{1, 2, 0}, "(1) (2;3) (1)|2 1 1"}, {[]int64{1, 0, 2}, "(1) (2;3) (1)|1 1 2"}, {[]int64{0, 2, 1}, "(2;3) (1) (1)|2 1 1"}, {[]int64{2, 1, 0}, "(1) (1) (2;3)|1 2 1"},
	} {
		lists, _ := curveAsLists(grammarCurve(given.text), 0)
		checkCurve(t, "RenumberCurve", renumberedBy(t, given.p), c, lists, impl.ErrNone)
	}
	r := rand.New(rand.NewSource(101))
	count := 0
	for n := range 150 {
		c := randomCurve(r, 1+r.Intn(4), 12, n%11)
		if n%30 == 0 {
			c = randomCurve(r, mostBranches, 12, 5)
		}
		facts := slowCurveFacts(c)
		before := make([]int64, len(c.Branches))
		for i := range before {
			before[i] = int64(i)
		}
		r.Shuffle(len(before), func(i, k int) { before[i], before[k] = before[k], before[i] })
		first := checkRenumbered(t, c, before)
		allPermutations(len(c.Branches), func(p []int64) {
			count++
			d := checkRenumbered(t, first, p)
			product := make([]int64, len(p))
			for i := range p {
				product[i] = p[before[i]]
			}
			if direct := checkRenumbered(t, c, product); !sameLists(termsOf(direct), termsOf(d)) || !sameLists(direct.Common, d.Common) {
				t.Errorf("renumbering %v by %v and %v makes %v, by %v it makes %v", c, before, p, d, product, direct)
			}
			milnor, _ := impl.CurveMilnor(d)
			delta, _ := impl.CurveDelta(d)
			if multiplicity, code := impl.CurveMultiplicity(d); multiplicity != facts.multiplicity || milnor != facts.milnor || delta != facts.delta || code != impl.ErrNone {
				t.Errorf("%v has %d, %d, %d, renumbered as %v it has %d, %d, %d", c, facts.multiplicity, facts.delta, facts.milnor, d, multiplicity, delta, milnor)
			}
			lengths, _ := impl.LengthsOf(d)
			for i, place := range product {
				if lengths[place] != facts.lengths[i] {
					t.Errorf("%v has the lengths %v, renumbered by %v it has %v", c, facts.lengths, product, lengths)
				}
			}
		})
	}
	if count < 3500 {
		t.Errorf("there are only %d permutations", count)
	}
}

// TestPartOfCurve checks all parts of curves.
func TestPartOfCurve(t *testing.T) {
	c := grammarCurve("(2;3) (1) (1)|1 2 1")
	for _, given := range []struct {
		list []int64
		text string
	}{
		{[]int64{0, 2}, "(2;3) (1)|2"}, {[]int64{0, 1}, "(2;3) (1)|1"}, {[]int64{1, 2}, "(1) (1)|1"}, {[]int64{0}, "(2;3)"}, {[]int64{1}, "(1)"}, {[]int64{2}, "(1)"}, {[]int64{0, 1, 2}, "(2;3) (1) (1)|1 2 1"},
	} {
		lists, _ := curveAsLists(grammarCurve(given.text), 0)
		checkCurve(t, "PartOfCurve", partWith(t, given.list), c, lists, impl.ErrNone)
	}
	r := rand.New(rand.NewSource(102))
	count := 0
	for n := range 120 {
		c := randomCurve(r, 1+n%mostBranches, 12, n%11)
		check := func(part []int64) {
			d := slowPart(c, part)
			lists, _ := curveAsLists(d, 0)
			checkCurve(t, "PartOfCurve", partWith(t, part), c, lists, impl.ErrNone)
			if !impl.IsCurve(d) {
				t.Errorf("the part %v of %v is no curve", part, c)
			}
			count++
		}
		allParts(len(c.Branches), func(part, _ []int64) { check(part) })
		whole := make([]int64, len(c.Branches))
		for i := range whole {
			whole[i] = int64(i)
		}
		check(whole)
	}
	if count < 2000 {
		t.Errorf("there are only %d parts", count)
	}
}

// TestWrongNumberings checks lists that are no permutations or no lists of branches.
func TestWrongNumberings(t *testing.T) {
	for _, text := range []string{"(1)", "(2;3)", "(2;3) (1)|2", "(2;3) (1) (1)|1 2 1", "(1) (1) (1) (1)|2 1 1 1 1 2", "(2;3) (2;3) (2;3) (2;3) (2;3) (2;3)|3 3 3 3 3 3 3 3 3 3 3 3 3 3 3"} {
		c := grammarCurve(text)
		for _, p := range wrongPermutations(len(c.Branches)) {
			checkCurve(t, "RenumberCurve", renumberedBy(t, p), c, nil, impl.ErrRange)
		}
		for _, list := range wrongPartLists(len(c.Branches)) {
			checkCurve(t, "PartOfCurve", partWith(t, list), c, nil, impl.ErrRange)
		}
	}
	// All short lists.
	c := evenCurve(2, []int64{1}, []int64{2, 3}, []int64{1})
	counts := [2]int{}
	allLists(4, -1, 3, func(list []int64) {
		sorted := slices.Compact(slices.Sorted(slices.Values(list)))
		ascending := len(list) > 0 && slices.Equal(sorted, list) && sorted[0] >= 0 && sorted[len(sorted)-1] <= 2
		if slices.Equal(sorted, []int64{0, 1, 2}) && len(list) == 3 {
			counts[0]++
		} else {
			checkCurve(t, "RenumberCurve", renumberedBy(t, list), c, nil, impl.ErrRange)
		}
		if ascending {
			counts[1]++
		} else {
			checkCurve(t, "PartOfCurve", partWith(t, list), c, nil, impl.ErrRange)
		}
	})
	if counts != [2]int{6, 7} {
		t.Errorf("numbers of right lists are %v", counts)
	}
}

func TestCurveTexts(t *testing.T) {
	for _, c := range []struct {
		text string
		c    impl.Curve
	}{
		{"(1)", evenCurve(0, []int64{1})}, {"(4;6,7)", evenCurve(0, []int64{4, 6, 7})}, {"(2;3) (1)|2", evenCurve(2, []int64{2, 3}, []int64{1})}, {"(1) (1)|200", evenCurve(200, []int64{1}, []int64{1})}, {"(1) (1)|10", evenCurve(10, []int64{1}, []int64{1})},
		{"(2;3) (1) (1)|1 2 1", curve([][]int64{{2, 3}, {1}, {1}}, [][]int64{{0, 1, 2}, {1, 0, 1}, {2, 1, 0}})}, {"(2;3) (1) (1)|2 1 1", curve([][]int64{{2, 3}, {1}, {1}}, [][]int64{{0, 2, 1}, {2, 0, 1}, {1, 1, 0}})}, {"(64;96,112,120,124,126,127)", evenCurve(0, longBranch)},
		{"(1) (1) (1) (1)|1 2 3 1 1 2", curve([][]int64{{1}, {1}, {1}, {1}}, [][]int64{{0, 1, 2, 3}, {1, 0, 1, 1}, {2, 1, 0, 2}, {3, 1, 2, 0}})}, {"(2;1999) (64;65) (3;2000)|1 1 1", evenCurve(1, []int64{2, 1999}, []int64{64, 65}, []int64{3, 2000})},
	} {
		text, _ := textAsLists(c.text, 0)
		checkCurve(t, "CurveText", ownCurveFunctions()["CurveText"], c.c, text, impl.ErrNone)
		checkParsedCurve(t, c.text, c.c)
	}
	// Six branches, and one more.
	six, numbers := "(1)"+strings.Repeat(" (1)", mostBranches-1)+"|", "1"+strings.Repeat(" 1", 14)
	checkParsedCurve(t, six+numbers, evenCurve(1, slices.Repeat([][]int64{{1}}, mostBranches)...))
	for _, text := range []string{six, six + numbers + " 1", six + numbers[2:], "(1) " + six + numbers, "(1) " + six + numbers + strings.Repeat(" 1", 6), six + numbers + strings.Repeat(" 1", 6), strings.Repeat("(1) ", 2000) + six + numbers} {
		checkParsedCurve(t, text, impl.Curve{})
	}
	// Very many branches, with as many numbers as they would need.
	checkParsedCurve(t, "(1)"+strings.Repeat(" (1)", 399)+"|1"+strings.Repeat(" 1", 399*200-1), impl.Curve{})
}

// spoiltTexts returns texts that come close to those of curves.
func spoiltTexts() []string {
	return []string{
		"", " ", "|", "||", " |", "| ", "1", "1 1|1", "1|1", "(", ")", "()", "() ()|1", "(1", "1)", "(1) (1|1", "(1) 1)|1", "(1) 1|1", "1 (1)|1", "(1)(1)|1", "((1)) (1)|1", "[1] (1)|1", "(1);(1)|1", "(1),(1)|1",
		// Blanks too many or missing.
		" (1)", "(1) ", "( 1)", "(2; 3)", "(2;3 )", "(4;6, 7)", " (1) (1)|1", "(1)  (1)|1", "(1) (1) |1", "(1) (1)| 1", "(1) (1)|1 ", "(1) (1) | 1", "(1) (1)\t|1", "(1)\t(1)|1", "(1)\n(1)|1", "(1) (1)|1\n", "(1) (1)|\n1", "(1) (1)\u00a0|1", "(1) (1) (1)|1  1 1", "(1) (1) (1)|11 1", "(1) (1) (1)|111", "(1) (1) (1)|1 1 1 ", "(1) (1) (1)| 1 1 1",
		"(1) (1) (1)|1\t1 1", "(1) (1) (1)|1\n1\n1", "(1) (1) (1)|1,1,1", "(1) (1) (1)|1;1;1", "(1) (1) (1)|1 1,1", "(1) (1) (1)|1\u00a01 1", "(1) (1) (1)|1\v1\f1", "(1) (1) (1)|1\u20031 1", "(1) (1) (1)|1\u00851 1", "(1) (1)|1\x00", "\x00(1) (1)|1",
		// Without | where it has to stand, and with it where it must not.
		"(1) (1)", "(2;3) (1)", "(1) (1) 1", "(1) (1)1", "(1) (1) (1) 1 1 1", "(1)|", "(1)|0", "(1)|1", "(1)| ", "(2;3)|", "(2;3)|1", "(2;3)||", "|(1)", "|(1) (1)|1", "(1)| (1)|1", "(1)|(1)|1", "(1)|(1)", "(1)|(1) 1", "(1) (1)||1", "(1) (1)|1|", "(1) (1)|1|1", "(1) (1)|", "(1) (1)| ", "(1) (1)/1", "(1) (1):1", "(1) (1)¦1", "(1|1) (1)|1",
		"(1) (1) (1)|1|1|1", "(1) (1) (1)|1 1|1", "(1) (1) (1)|1 1 1|", "(1) (1) (1)||1 1 1", "(1) (1)|1 (1)", "1|(1) (1)", "(2|3) (1)|2", "(2;3|) (1)|2", "(1) (1)|(1)", "(1) (1)|(1) 1",
		// Numbers too few and too many.
		"(1) (1)|1 1", "(1) (1)|1 1 1", "(1) (1) (1)|", "(1) (1) (1)|1", "(1) (1) (1)|1 1", "(1) (1) (1)|1 1 1 1", "(1) (1) (1)|0 1 1 1 0 1 1 1 0", "(1) (1)|0 1 1 0", "(1) (1) (1) (1)|1 1 1 1 1", "(1) (1) (1) (1)|1 1 1", "(1) (1) (1) (1)|1 1 1 1 1 1 1",
		// Signs, leading zeros, and other letters.
		"(1) (1)|+1", "(1) (1)|-1", "(1) (1)|--1", "(1) (1)|01", "(1) (1)|001", "(1) (1)|00", "(1) (1)|010", "(1) (1)|0200", "(1) (1)|000000001", "(1) (1)|0000000001", "(1) (1) (1)|1 01 1", "(1) (1) (1)|1 1 01", "(1) (1) (1)|1 1 -1", "(1) (1) (1)|-1 1 1", "(1) (1) (1)|+1 1 1", "(01) (1)|1", "(1) (+1)|1", "(1) (-1)|1", "(2;03) (1)|1",
		"(1) (1)|x", "(1) (1)|1x", "(1) (1)|x1", "(1) (1)|1.0", "(1) (1)|1e0", "(1) (1)|0x1", "(1) (1)|1_0", "(1) (1)|\uff11", "(1) (1)|\u0661", "(1) (1)|\u22121", "(1) (1)|\xff", "(1) (1)|1\xff", "(x) (1)|1", "(1) (1)|-", "(1) (1)|+", "(1) (1)|1-", "-(1) (1)|1", "+(1)",
		// Numbers of common points that are out of their range, and such that int64 or nine digits do not have.
		"(1) (1)|0", "(1) (1)|-0", "(1) (1)|201", "(1) (1)|202", "(1) (1)|999999999", "(1) (1)|1000000000", "(1) (1)|1000000001", "(1) (1)|4294967297", "(1) (1)|18446744073709551617", "(1) (1)|9223372036854775808", "(1) (1)|-9223372036854775807", "(1) (1)|99999999999999999999999999", "(1) (1) (1)|1 1 0", "(1) (1) (1)|0 1 1", "(1) (1) (1)|201 1 1", "(1) (1) (1)|1 1 18446744073709551617",
		// Texts of things that are no curves.
		"(2)", "(0)", "(65;66)", "(2;4)", "(2;2001)", "(2) (1)|1", "(1) (2)|1", "(1) (1) (4;6)|1 1 1", "(2;3) (1)|3", "(1) (2;3)|3", "(1) (2;3)|200", "(2;3) (2;3)|2", "(3;4) (3;5)|2", "(3;4) (3;5)|4", "(4;6,7) (2;3)|2", "(4;6,7) (2;3)|5", "(4;6,7) (4;6,7)|4", "(2;5) (2;5)|3", "(2;5) (2;3)|3", "(2;399) (1)|201", "(2;397) (1)|200",
		"(1) (1) (1)|1 2 2", "(1) (1) (1)|2 1 2", "(1) (1) (1)|2 2 1", "(1) (1) (1)|1 2 3", "(1) (1) (1)|3 2 1", "(1) (1) (1)|199 200 200", "(1) (1) (1)|2 3 1", "(2;3) (2;3) (1)|3 2 1", "(2;3) (2;3) (1)|1 2 2", "(2;3) (1) (1)|2 2 1",
	}
}

func TestParseCurveSyntax(t *testing.T) {
	for _, text := range spoiltTexts() {
		checkParsedCurve(t, text, impl.Curve{})
		if c := grammarCurve(text); len(c.Branches) > 0 {
			t.Errorf("%q is the text of %v", text, c)
		}
	}
	for _, part := range []string{"(", ")", "(1)", "(1) ", " (1)", "|", "1", "0", " ", "1 ", " 1", "|1", "(1)|", ";", ",", "\x00"} {
		long := strings.Repeat(part, 100000)
		for _, text := range []string{long, "(1)" + long, "(1) (1)" + long, "(1) (1)|" + long, "(1) (1)|1" + long, "(1) (1)|1 " + long, "(1) (1) (1)|1 1 1" + long, long + "(1) (1)|1", "(" + long + ") (1)|1", "(2;" + long + "3) (1)|1"} {
			if lists, code := curveAsLists(impl.ParseCurve(text)); lists != nil || code != impl.ErrSyntax {
				t.Errorf("ParseCurve of many %q = %v, %d", part, lists, code)
			}
		}
	}
}

// TestTextsOfNoCurves checks the texts that things would have that are no curves.
func TestTextsOfNoCurves(t *testing.T) {
	count := 0
	for _, c := range invalidCurves() {
		var texts, numbers []string
		same := len(c.Common) == len(c.Branches)
		for i, row := range c.Common {
			same = same && len(row) == len(c.Common) && row[i] == 0
			for k := i + 1; same && k < len(row); k++ {
				numbers = append(numbers, strconv.FormatInt(row[k], 10))
				same = len(c.Common[k]) == len(row) && c.Common[k][i] == row[k]
			}
		}
		// Other things have no text, or that of a curve.
		if !same {
			continue
		}
		for _, b := range c.Branches {
			var terms []string
			for _, n := range b.Terms {
				terms = append(terms, strconv.FormatInt(n, 10))
			}
			texts = append(texts, "("+strings.Replace(strings.Join(terms, ","), ",", ";", 1)+")")
		}
		text := strings.Join(texts, " ")
		if len(texts) > 1 {
			text += "|" + strings.Join(numbers, " ")
		}
		checkParsedCurve(t, text, impl.Curve{})
		count++
	}
	if count < 250 {
		t.Errorf("only %d texts are checked", count)
	}
}

// checkCurveGrammar checks that a text is parsed as the grammar tells, and reports whether it is one.
func checkCurveGrammar(t *testing.T, text string) bool {
	t.Helper()
	want, wantCode := curveAsLists(grammarCurve(text), impl.ErrNone)
	if want == nil {
		wantCode = impl.ErrSyntax
	}
	c, code := impl.ParseCurve(text)
	if lists, _ := curveAsLists(c, 0); !sameLists(lists, want) || code != wantCode {
		t.Errorf("ParseCurve(%q) = %v, %d; wanted %v, %d", text, c, code, want, wantCode)
	}
	if code != impl.ErrNone {
		return false
	}
	if back, backCode := impl.CurveText(c); back != text || backCode != impl.ErrNone {
		t.Errorf("CurveText(%v) = %q, %d; wanted %q", c, back, backCode, text)
	}
	return true
}

// TestShortCurveTexts checks all short texts behind the beginnings of curves, and texts of curves in which bytes or
// parts are changed, left out or put in.
func TestShortCurveTexts(t *testing.T) {
	right := 0
	check := func(text string) {
		if checkCurveGrammar(t, text) {
			right++
		}
	}
	texts := []string{""}
	for range 5 {
		var longer []string
		for _, text := range texts {
			for _, letter := range []string{"0", "1", "2", " ", "|", "-", "(1)", "(2;3)"} {
				longer = append(longer, text+letter)
			}
		}
		for _, text := range longer {
			check(text)
			check("(1) (1)" + text)
			check("(1) (1)|" + text)
			check("(1) (1) (1)|" + text)
			check("(2;3) (1) (1)|" + text)
		}
		texts = longer
	}
	if right < 50 {
		t.Errorf("only %d short texts are right", right)
	}
	r := rand.New(rand.NewSource(103))
	results := map[bool]int{}
	for n := range 40000 {
		text := []byte(slowCurveFacts(randomCurve(r, 1+r.Intn(4), []int64{3, 12, 40}[n%3], n%11)).text)
		for range 1 + r.Intn(2) {
			place := r.Intn(len(text))
			switch letter := "0123456789 |();,-+"[r.Intn(18)]; r.Intn(4) {
			case 0:
				text[place] = letter
			case 1:
				text = slices.Delete(text, place, place+1)
			case 2:
				text = slices.Insert(text, place, letter)
			default:
				// A digit, which may leave a curve.
				if text[place] >= '0' && text[place] <= '9' {
					text[place] = byte('1' + r.Intn(9))
				}
			}
			if len(text) == 0 {
				break
			}
		}
		results[checkCurveGrammar(t, string(text))]++
	}
	if results[true] < 5000 || results[false] < 20000 {
		t.Errorf("there are so many right texts: %v", results)
	}
}

// TestCurveResultsAreNew checks that the lists of results share no memory with arguments or with each other.
func TestCurveResultsAreNew(t *testing.T) {
	given := grammarCurve("(2;3) (1) (4;6,7) (2;3)|2 3 3 2 2 4")
	if len(given.Branches) != 4 {
		t.Fatalf("%v is no curve", given)
	}
	results := map[string]func(c impl.Curve) (impl.Curve, int64){
		"CurveOfBranch": func(c impl.Curve) (impl.Curve, int64) { return impl.CurveOfBranch(c.Branches[2]) },
		"RenumberCurve": func(c impl.Curve) (impl.Curve, int64) { return impl.RenumberCurve(c, []int64{0, 1, 2, 3}) },
		"PartOfCurve":   func(c impl.Curve) (impl.Curve, int64) { return impl.PartOfCurve(c, []int64{0, 1, 2, 3}) },
		"ParseCurve":    func(c impl.Curve) (impl.Curve, int64) { return impl.ParseCurve(slowCurveFacts(c).text) },
		"CurveOfCluster": func(impl.Curve) (impl.Curve, int64) {
			return impl.CurveOfCluster(grammarCluster("12 6:0 6:1,0"))
		},
	}
	for name, f := range results {
		checkCurveKept(t, name, given, func(c impl.Curve) {
			// copiedCurve writes all over the result.
			kept, code := copiedCurve(f(c))
			if again, againCode := copiedCurve(f(c)); len(kept) == 0 || !sameLists(again, kept) || code != impl.ErrNone || againCode != code {
				t.Errorf("%s(%v) = %v, %d; before %v, %d", name, c, again, againCode, kept, code)
			}
		})
	}
	for name, f := range ownCurveFunctions() {
		checkCurveKept(t, name, given, func(c impl.Curve) {
			lists, code := f(c)
			kept := copyLists(lists)
			scribble(lists...)
			if again, againCode := f(c); len(kept) == 0 || !sameLists(again, kept) || code != impl.ErrNone || againCode != code {
				t.Errorf("%s(%v) = %v, %d; before %v, %d", name, c, again, againCode, kept, code)
			}
		})
	}
}
