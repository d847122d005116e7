package tests

import (
	"math"
	"math/rand"
	"slices"
	"testing"

	"loop.example/g01140/impl"
)

// Limits of chapter 8.
const (
	mostOrder         = 100000
	mostMultiplied    = 1000
	mostMultiplier    = 10
	mostFractionParts = 1000
)

// fractionAsLists puts a fraction into lists.
func fractionAsLists(f impl.Fraction, code int64) ([][]int64, int64) {
	if f == (impl.Fraction{}) {
		return nil, code
	}
	return [][]int64{{f.Top, f.Bottom}}, code
}

// unloadFunctions returns the functions of chapter 8 of a cluster alone.
func unloadFunctions() map[string]clusterFunction {
	return map[string]clusterFunction{
		"UnloadStep":         func(c impl.Cluster) ([][]int64, int64) { return copiedResult(impl.UnloadStep(c)) },
		"UnloadCluster":      func(c impl.Cluster) ([][]int64, int64) { return copiedResult(impl.UnloadCluster(c)) },
		"CodimensionOf":      func(c impl.Cluster) ([][]int64, int64) { return numberAsLists(impl.CodimensionOf(c)) },
		"SquareOfCluster":    func(c impl.Cluster) ([][]int64, int64) { return numberAsLists(impl.SquareOfCluster(c)) },
		"FactorsOf":          impl.FactorsOf,
		"PointDiscrepancies": func(c impl.Cluster) ([][]int64, int64) { return listAsLists(impl.PointDiscrepancies(c)) },
		"LeastThreshold":     func(c impl.Cluster) ([][]int64, int64) { return fractionAsLists(impl.LeastThreshold(c)) },
	}
}

// pathTo returns PathOf to a point as a function of a cluster.
func pathTo(i int64) clusterFunction {
	return func(c impl.Cluster) ([][]int64, int64) { return listAsLists(impl.PathOf(c, i)) }
}

// branchAt returns BranchAtPoint at a point as a function of a cluster.
func branchAt(i int64) clusterFunction {
	return func(c impl.Cluster) ([][]int64, int64) {
		b, code := impl.BranchAtPoint(c, i)
		return listAsLists(b.Terms, code)
	}
}

// withOrders returns ClusterOfOrders with some orders as a function of a cluster.
func withOrders(t *testing.T, orders []int64) clusterFunction {
	return func(c impl.Cluster) (lists [][]int64, code int64) {
		checkListKept(t, "ClusterOfOrders", orders, func(list []int64) { lists, code = copiedResult(impl.ClusterOfOrders(c, list)) })
		return lists, code
	}
}

// multipliedBy returns MultiplierCluster with a fraction as a function of a cluster.
func multipliedBy(f impl.Fraction) clusterFunction {
	return func(c impl.Cluster) ([][]int64, int64) { return copiedResult(impl.MultiplierCluster(c, f)) }
}

// mixedWith returns MixedProduct with another cluster as a function of the first one.
func mixedWith(t *testing.T, d impl.Cluster) clusterFunction {
	return func(c impl.Cluster) (lists [][]int64, code int64) {
		checkClusterKept(t, "MixedProduct", d, func(d impl.Cluster) { lists, code = numberAsLists(impl.MixedProduct(c, d)) })
		return lists, code
	}
}

// excessesByLists returns the excesses of points with some weights.
func excessesByLists(proximates [][]int64, weights []int64) []int64 {
	excesses := slices.Clone(weights)
	for k, list := range proximates {
		for _, i := range list {
			excesses[i] -= weights[k]
		}
	}
	return excesses
}

// weightsByExcesses returns the weights of points with some excesses.
func weightsByExcesses(proximates [][]int64, excesses []int64) []int64 {
	weights := slices.Clone(excesses)
	for k := len(proximates) - 1; k >= 0; k-- {
		for _, i := range proximates[k] {
			weights[i] += weights[k]
		}
	}
	return weights
}

// weightsByOrders returns the weights of points with some orders.
func weightsByOrders(proximates [][]int64, orders []int64) []int64 {
	weights := slices.Clone(orders)
	for k, list := range proximates {
		for _, i := range list {
			weights[k] -= orders[i]
		}
	}
	return weights
}

// slowStep unloads a point with a negative excess.
func slowStep(proximates [][]int64, weights []int64, i int) {
	near := int64(1)
	for _, list := range proximates {
		if slices.Contains(list, int64(i)) {
			near++
		}
	}
	lack := -excessesByLists(proximates, weights)[i]
	s := lack / near
	if s*near < lack {
		s++
	}
	weights[i] += s
	for k, list := range proximates {
		if slices.Contains(list, int64(i)) {
			weights[k] -= s
		}
	}
}

// choices are ways to choose one of the points with negative excesses.
func choices(r *rand.Rand) []func(points []int, excesses []int64) int {
	return []func(points []int, excesses []int64) int{
		func(points []int, _ []int64) int { return points[len(points)-1] },
		func(points []int, _ []int64) int { return points[r.Intn(len(points))] },
		func(points []int, excesses []int64) int {
			return slices.MinFunc(points, func(i, k int) int { return int(excesses[i] - excesses[k]) })
		},
		func(points []int, _ []int64) int { return points[0] },
	}
}

// slowUnload returns the weights of the unloaded cluster by steps at chosen points, and the number of steps, or
// nil if there are more than most.
func slowUnload(c impl.Cluster, choose func(points []int, excesses []int64) int, most int) ([]int64, int) {
	proximates, weights := proximatesOfCluster(c), slices.Clone(c.Weights)
	for steps := 0; steps <= most; steps++ {
		var points []int
		excesses := excessesByLists(proximates, weights)
		for i, excess := range excesses {
			if excess < 0 {
				points = append(points, i)
			}
		}
		if len(points) == 0 {
			return weights, steps
		}
		slowStep(proximates, weights, choose(points, excesses))
	}
	return nil, most
}

// inWeightRange reports whether weights are in their range.
func inWeightRange(weights []int64) bool {
	return slices.Max(weights) <= mostWeight && slices.Min(weights) >= -mostWeight
}

// checkUnloaded checks the unloaded cluster, the codimension and the square, by the weights of the unloaded cluster,
// which may be out of their range.
func checkUnloaded(t *testing.T, c impl.Cluster, weights []int64) {
	t.Helper()
	functions := unloadFunctions()
	if !inWeightRange(weights) {
		for _, name := range []string{"UnloadCluster", "CodimensionOf", "SquareOfCluster"} {
			checkCluster(t, name, functions[name], c, nil, impl.ErrLimit)
		}
		return
	}
	var codimension, square int64
	for _, w := range weights {
		codimension += (w*w + w) / 2
		square += w * w
	}
	checkCluster(t, "UnloadCluster", functions["UnloadCluster"], c, [][]int64{c.Parents, c.Seconds, weights}, impl.ErrNone)
	want, _ := numberAsLists(codimension, 0)
	checkCluster(t, "CodimensionOf", functions["CodimensionOf"], c, want, impl.ErrNone)
	want, _ = numberAsLists(square, 0)
	checkCluster(t, "SquareOfCluster", functions["SquareOfCluster"], c, want, impl.ErrNone)
}

// checkStep checks a single step against that of the test, and reports whether there is one in the range of weights.
func checkStep(t *testing.T, c impl.Cluster) bool {
	t.Helper()
	proximates, weights := proximatesOfCluster(c), slices.Clone(c.Weights)
	point := slices.IndexFunc(excessesByLists(proximates, weights), func(excess int64) bool { return excess < 0 })
	want, code := [][]int64(nil), int64(impl.ErrNotFound)
	if point >= 0 {
		slowStep(proximates, weights, point)
		want, code = [][]int64{c.Parents, c.Seconds, weights}, impl.ErrNone
		if !inWeightRange(weights) {
			want, code = nil, impl.ErrLimit
		}
	}
	checkCluster(t, "UnloadStep", unloadFunctions()["UnloadStep"], c, want, code)
	return code == impl.ErrNone
}

// unloadingCase is a cluster with what follows from it: a step or none, where it leads, and for a consistent cluster
// its factors, and its threshold or none.
type unloadingCase struct {
	text, step, unloaded string
	codimension, square  int64
	factors              [][]int64
	discrepancies        []int64
	threshold            impl.Fraction
}

func unloadingCases() []unloadingCase {
	return []unloadingCase{
		{"1 1:0 1:0", "2 0:0 0:0", "2 0:0 0:0", 3, 4, nil, []int64{1, 2, 2}, fraction(0, 0)},
		{"2 1:0 1:1,0", "", "2 1:0 1:1,0", 5, 6, [][]int64{{2, 1}}, []int64{1, 2, 4}, fraction(5, 6)},
		{"2 0:0 0:0", "", "2 0:0 0:0", 3, 4, [][]int64{{0, 2}}, []int64{1, 2, 2}, fraction(1, 1)},
		{"1", "", "1", 1, 1, [][]int64{{0, 1}}, []int64{1}, fraction(2, 1)},
		{"3", "", "3", 6, 9, [][]int64{{0, 3}}, []int64{1}, fraction(2, 3)},
		{"0", "", "0", 0, 0, nil, []int64{1}, fraction(0, 0)},
		{"0 0:0 0:1,0", "", "0 0:0 0:1,0", 0, 0, nil, []int64{1, 2, 4}, fraction(0, 0)},
		{"-3", "0", "0", 0, 0, nil, []int64{1}, fraction(0, 0)},
		{"0 1:0", "1 0:0", "1 0:0", 1, 1, nil, []int64{1, 2}, fraction(0, 0)},
		{"0 2:0", "1 1:0", "1 1:0", 2, 2, nil, []int64{1, 2}, fraction(0, 0)},
		{"0 3:0", "2 1:0", "2 1:0", 4, 5, nil, []int64{1, 2}, fraction(0, 0)},
		{"0 0:0 1:1", "0 1:0 0:1", "1 0:0 0:1", 1, 1, nil, []int64{1, 2, 3}, fraction(0, 0)},
		{"1 1:0 1:1,0", "2 0:0 0:1,0", "2 0:0 0:1,0", 3, 4, nil, []int64{1, 2, 4}, fraction(0, 0)},
		{"3 2:0 1:1,0", "", "3 2:0 1:1,0", 10, 14, [][]int64{{1, 1}, {2, 1}}, []int64{1, 2, 4}, fraction(5, 9)},
		{"5 1:0 1:0 1:1 1:2,0", "", "5 1:0 1:0 1:1 1:2,0", 19, 29, [][]int64{{0, 2}, {3, 1}, {4, 1}}, []int64{1, 2, 2, 3, 4}, fraction(2, 5)},
		{"1 -1:0", "1 0:0", "1 0:0", 1, 1, nil, []int64{1, 2}, fraction(0, 0)},
		{"50000 50000:0 100000:1 100000:1 100000:1", "", "85715 85714:0 28571:1 28571:1 28571:1", 0, 0, nil, []int64{1, 2, 3, 3, 3}, fraction(0, 0)},
		{"0 -100000:0 100000:0 100000:0", "", "66667 0:0 33333:0 33333:0", 0, 0, nil, []int64{1, 2, 2, 2}, fraction(0, 0)},
	}
}

// TestUnloadingCases checks all functions of a cluster alone. Those that are not consistent have no factors and no
// threshold; two of them leave the range of weights on the way.
func TestUnloadingCases(t *testing.T) {
	functions := unloadFunctions()
	for _, c := range unloadingCases() {
		given, unloaded := grammarCluster(c.text), grammarCluster(c.unloaded)
		if len(given.Weights) == 0 || len(unloaded.Weights) == 0 {
			t.Fatalf("%q or %q is no text", c.text, c.unloaded)
		}
		checkUnloaded(t, given, unloaded.Weights)
		checkStep(t, given)
		consistent := c.text == c.unloaded
		if c.step != "" || consistent {
			want, code := clusterAsLists(grammarCluster(c.step), impl.ErrNone)
			if consistent {
				want, code = nil, impl.ErrNotFound
			}
			checkCluster(t, "UnloadStep", functions["UnloadStep"], given, want, code)
		} else {
			checkCluster(t, "UnloadStep", functions["UnloadStep"], given, nil, impl.ErrLimit)
		}
		if c.codimension > 0 || consistent {
			want, _ := numberAsLists(c.codimension, 0)
			checkCluster(t, "CodimensionOf", functions["CodimensionOf"], given, want, impl.ErrNone)
			want, _ = numberAsLists(c.square, 0)
			checkCluster(t, "SquareOfCluster", functions["SquareOfCluster"], given, want, impl.ErrNone)
		}
		code := int64(impl.ErrState)
		if consistent {
			code = impl.ErrNone
		}
		checkCluster(t, "FactorsOf", functions["FactorsOf"], given, c.factors, code)
		checkCluster(t, "PointDiscrepancies", functions["PointDiscrepancies"], given, [][]int64{c.discrepancies}, impl.ErrNone)
		threshold, code := fractionAsLists(c.threshold, impl.ErrNone)
		if threshold == nil {
			code = impl.ErrState
		}
		checkCluster(t, "LeastThreshold", functions["LeastThreshold"], given, threshold, code)
	}
}

// TestUnloadingByOtherSteps checks unloaded clusters against those that steps at other points lead to, for clusters
// for which these are not too many, and single steps for all.
func TestUnloadingByOtherSteps(t *testing.T) {
	r := rand.New(rand.NewSource(81))
	numbers := map[string]int{}
	clusters := someClusters()
	for range 2500 {
		clusters = append(clusters, randomCluster(r, 1+r.Intn(mostCluster), r.Intn(8), 3+r.Intn(8), 1+r.Int63n(60)))
	}
	for n, c := range clusters {
		if checkStep(t, c) {
			numbers["a step"]++
		}
		weights, steps := slowUnload(c, choices(r)[n%4], 5000)
		if weights == nil {
			numbers["too many"]++
			continue
		}
		checkUnloaded(t, c, weights)
		switch {
		case !inWeightRange(weights):
			numbers["beyond the range"]++
		case steps < 2:
			numbers[[]string{"consistent", "one step"}[steps]]++
		case steps > 200:
			numbers["many steps"]++
		default:
			numbers["some steps"]++
		}
	}
	if numbers["a step"] < 2500 || numbers["consistent"] < 200 || numbers["one step"] < 150 || numbers["some steps"] < 1500 || numbers["many steps"] < 200 || numbers["beyond the range"] < 5 {
		t.Errorf("numbers are %v", numbers)
	}
}

// TestAllSmallUnloadings checks all clusters of up to four points with small weights against all ways to unload
// them.
func TestAllSmallUnloadings(t *testing.T) {
	r := rand.New(rand.NewSource(82))
	count := 0
	for points := 1; points <= 4; points++ {
		for _, proximates := range allPointSets(points) {
			allLists(points, -1, 3, func(weights []int64) {
				if len(weights) < points {
					return
				}
				c := clusterWith(proximates, weights)
				first, _ := slowUnload(c, choices(r)[0], 1000)
				other, _ := slowUnload(c, choices(r)[1], 1000)
				if first == nil || !slices.Equal(first, other) {
					t.Fatalf("%v is unloaded to %v and %v", c, first, other)
				}
				if unloaded, code := impl.UnloadCluster(c); !slices.Equal(unloaded.Weights, first) || code != impl.ErrNone {
					t.Errorf("UnloadCluster(%v) = %v, %d; wanted %v", c, unloaded, code, first)
				}
				count++
			})
		}
	}
	if count != 5+25+3*125+15*625 {
		t.Errorf("there are %d clusters", count)
	}
}

// TestUnloadedIsLeast checks that the unloaded cluster has the least orders of all consistent clusters whose orders
// are not less, which the test finds among all clusters with small excesses.
func TestUnloadedIsLeast(t *testing.T) {
	r := rand.New(rand.NewSource(83))
	for points := 1; points <= 4; points++ {
		for _, proximates := range allPointSets(points) {
			var consistent [][]int64
			allLists(points, 0, 5, func(excesses []int64) {
				if len(excesses) == points {
					consistent = append(consistent, slowSums(proximates, weightsByExcesses(proximates, excesses)))
				}
			})
			for range 60 {
				orders := make([]int64, points)
				for i := range orders {
					orders[i] = r.Int63n(8) - 2
				}
				orders[r.Intn(points)] = 5
				for i := range orders {
					orders[i] = min(orders[i], 5)
				}
				// The excesses of the least one are at most the greatest order, which is 5.
				var least []int64
				for _, other := range consistent {
					if slices.ContainsFunc([]int{0, 1, 2, 3}[:points], func(i int) bool { return other[i] < orders[i] }) {
						continue
					}
					if least == nil {
						least = slices.Clone(other)
					}
					for i := range least {
						least[i] = min(least[i], other[i])
					}
				}
				checkUnloaded(t, clusterWith(proximates, weightsByOrders(proximates, orders)), weightsByOrders(proximates, least))
			}
		}
	}
}

// checkBackwards makes orders of a consistent cluster less at points whose excesses are 0, by at most as much as
// is told: unloading leads back to the cluster, because the orders there are the least ones without a negative
// excess. It reports whether the weights stay in their range.
func checkBackwards(t *testing.T, r *rand.Rand, proximates [][]int64, weights []int64, most int64) bool {
	t.Helper()
	orders := slowSums(proximates, weights)
	for i, excess := range excessesByLists(proximates, weights) {
		if excess == 0 && r.Intn(4) > 0 {
			orders[i] -= r.Int63n(most + 1)
		}
	}
	given := weightsByOrders(proximates, orders)
	if !inWeightRange(given) {
		return false
	}
	checkUnloaded(t, clusterWith(proximates, given), weights)
	return true
}

// TestUnloadingBackwards checks clusters that unloading leads back to, many of them with more steps than can be
// taken one by one.
func TestUnloadingBackwards(t *testing.T) {
	r := rand.New(rand.NewSource(84))
	checked := 0
	for n := range 6000 {
		proximates := proximatesOfCluster(randomCluster(r, 1+r.Intn(mostCluster), n%11, 10-n/11%5, 1))
		excesses := repeated(0, len(proximates))
		for range 1 + r.Intn(3) {
			excesses[r.Intn(len(excesses))] = 1 + r.Int63n([]int64{3, 50, 2000, mostWeight}[n%4])
		}
		weights := weightsByExcesses(proximates, excesses)
		if slices.Max(weights) <= mostWeight && checkBackwards(t, r, proximates, weights, []int64{2, 100, 70000}[n%3]) {
			checked++
		}
	}
	if checked < 3000 {
		t.Errorf("only %d clusters are checked", checked)
	}
}

// TestUnloadingBackToTheLimit checks clusters that unloading leads back to, with first weights next to the end of
// their range.
func TestUnloadingBackToTheLimit(t *testing.T) {
	r := rand.New(rand.NewSource(85))
	numbers := map[int64]int{}
	for n := range 20000 {
		proximates := proximatesOfCluster(randomCluster(r, 3+r.Intn(mostCluster-2), n%11, n/11%11, 1))
		excesses := repeated(0, len(proximates))
		i := 1 + r.Intn(len(excesses)-1)
		excesses[i] = 1
		first := mostWeight - 2 + r.Int63n(5)
		share := weightsByExcesses(proximates, excesses)[0]
		excesses[i] = first / share
		// The first weight of the simple cluster of the point 1 is 1.
		excesses[1] += first % share
		if checkBackwards(t, r, proximates, weightsByExcesses(proximates, excesses), 10) {
			numbers[first]++
		}
	}
	if numbers[mostWeight-1] < 500 || numbers[mostWeight] < 300 || numbers[mostWeight+1] < 100 || numbers[mostWeight+2] < 100 {
		t.Errorf("numbers are %v", numbers)
	}
}

// TestLongUnloadings checks clusters whose unloading by single steps would take up to 10^9 of them and more.
func TestLongUnloadings(t *testing.T) {
	for count := 2; count <= mostCluster; count++ {
		c := twoBefore(count)
		proximates := proximatesOfCluster(c)
		for _, w := range []int64{1, 2, 77, 99999, mostWeight} {
			// The order of the first point alone asks for so much at all others.
			want := append([]int64{w}, repeated(0, count-1)...)
			orders := append([]int64{w}, repeated(0, count-1)...)
			checkUnloaded(t, withWeights(c, weightsByOrders(proximates, orders)...), want)
			orders = append([]int64{w}, repeated(-1, count-1)...)
			if weights := weightsByOrders(proximates, orders); inWeightRange(weights) {
				checkUnloaded(t, withWeights(c, weights...), want)
			}
			checkUnloaded(t, withWeights(c, append([]int64{w}, repeated(-mostWeight, count-1)...)...), want)
		}
		// One for the order of the last point, which is that of the greatest multiplicity.
		checkUnloaded(t, withWeights(c, append(repeated(0, count-1), 1)...), append([]int64{1}, repeated(0, count-1)...))
	}
	// A row of free points, of which the last one has to be met so often: each one gets its share.
	for _, w := range []int64{1, 23, 24, 25, 1000, 99999, mostWeight} {
		want := repeated(w/mostCluster, mostCluster)
		for i := range int(w % mostCluster) {
			want[i]++
		}
		checkUnloaded(t, withWeights(rowOfPoints(mostCluster, nil), append(repeated(0, mostCluster-1), w)...), want)
	}
}

// TestUnloadingToTheLimit checks unloaded weights at the end of their range and just beyond it, for the first point.
// (The weights of a consistent cluster are not greater than its first one.)
func TestUnloadingToTheLimit(t *testing.T) {
	codes := map[int64]int{}
	star := withWeights(rowOfPoints(mostCluster, nil), repeated(0, mostCluster)...)
	copy(star.Parents[1:], repeated(0, mostCluster-1))
	pair := cluster([]int64{-1, 0, 0}, repeated(-1, 3), repeated(0, 3))
	for _, c := range []struct {
		c             impl.Cluster
		weights, want []int64
	}{
		{pair, []int64{mostWeight, 50000, 50000}, []int64{mostWeight, 50000, 50000}}, {pair, []int64{mostWeight, 50000, 50001}, []int64{100001, 49999, 50000}}, {pair, []int64{99999, 50000, 50002}, []int64{mostWeight, 49999, 50001}},
		{pair, []int64{99999, 50001, 50002}, []int64{100001, 49999, 50000}}, {pair, []int64{mostWeight, mostWeight, 0}, []int64{mostWeight, mostWeight, 0}}, {pair, []int64{mostWeight, mostWeight, 1}, []int64{100001, 99999, 0}},
		{pair, []int64{mostWeight, mostWeight, -1}, []int64{mostWeight, mostWeight, 0}}, {pair, []int64{mostWeight, mostWeight, mostWeight}, []int64{133334, 66666, 66666}}, {rowOfPoints(1, nil), []int64{mostWeight}, []int64{mostWeight}},
		{rowOfPoints(1, nil), []int64{-mostWeight}, []int64{0}}, {rowOfPoints(2, nil), []int64{mostWeight, mostWeight}, []int64{mostWeight, mostWeight}}, {rowOfPoints(2, nil), []int64{99998, mostWeight}, []int64{99999, 99999}},
		{star, repeated(-mostWeight, mostCluster), repeated(0, mostCluster)}, {twoBefore(mostCluster), repeated(-mostWeight, mostCluster), repeated(0, mostCluster)}, {star, append([]int64{mostWeight}, repeated(4347, 23)...), append([]int64{mostWeight}, repeated(4347, 23)...)},
		{star, append([]int64{mostWeight}, repeated(4348, 23)...), append([]int64{100001}, repeated(4347, 23)...)}, {star, append([]int64{99999}, repeated(4348, 23)...), append([]int64{mostWeight}, repeated(4347, 23)...)},
	} {
		given := withWeights(c.c, c.weights...)
		checkUnloaded(t, given, c.want)
		_, code := impl.UnloadCluster(given)
		codes[code]++
	}
	if codes[impl.ErrNone] != 12 || codes[impl.ErrLimit] != 5 {
		t.Errorf("codes are %v", codes)
	}
}

// TestUnloadSteps checks the size of steps at points to which none, one and many are proximate, and the point that is
// unloaded.
func TestUnloadSteps(t *testing.T) {
	star := withWeights(rowOfPoints(mostCluster, nil), repeated(0, mostCluster)...)
	copy(star.Parents[1:], repeated(0, mostCluster-1))
	step := unloadFunctions()["UnloadStep"]
	for lack := int64(1); lack < 80; lack++ {
		checkCluster(t, "UnloadStep", step, cluster([]int64{-1}, []int64{-1}, []int64{-lack}), [][]int64{{-1}, {-1}, {0}}, impl.ErrNone)
		for count := 1; count <= mostCluster; count++ {
			s := (lack + int64(count) - 1) / int64(count)
			c := cluster(star.Parents[:count], star.Seconds[:count], append([]int64{-lack}, repeated(0, count-1)...))
			checkCluster(t, "UnloadStep", step, c, [][]int64{c.Parents, c.Seconds, append([]int64{s - lack}, repeated(-s, count-1)...)}, impl.ErrNone)
		}
	}
	for _, c := range []struct{ text, want string }{
		// The least one of several points, the last one alone, and satellites.
		{"0 1:0 2:1", "1 0:0 2:1"}, {"1 0:0 1:1 1:1", "1 1:0 0:1 0:1"}, {"1 0:0 -1:1 -1:2", "1 0:0 -1:1 0:2"}, {"5 2:0 1:1 -2:2", "5 2:0 1:1 0:2"}, {"-1 -1:0 -1:0 -1:0", "-1 0:0 -1:0 -1:0"}, {"0 0:0 1:1,0 5:2,1", "1 -1:0 0:1,0 5:2,1"},
		{"5 0:0 1:1,0 1:2,1", "5 1:0 0:1,0 0:2,1"}, {"9 2:0 1:1,0 2:2,1", "9 3:0 0:1,0 1:2,1"}, {"9 4:0 1:1,0 2:2,1", "9 4:0 2:1,0 1:2,1"}, {"9 -3:0 2:0 3:0 1:1", "9 -1:0 2:0 3:0 -1:1"},
		// Weights at the ends of their range, also next to those of consistent points, and steps beyond it.
		{"99999 100000:0", "100000 99999:0"}, {"100000 100000:0 1:0", ""}, {"100000 100000:0 2:0 -1:0", ""}, {"99999 100000:0 0:0", "100000 99999:0 -1:0"}, {"0 -99999:0 100000:0 1:0", "1 -100000:0 99999:0 0:0"}, {"0 -99999:0 100000:0 0:0", "1 -100000:0 99999:0 -1:0"},
		{"0 -100000:0 100000:0 2:0", ""}, {"-100000", "0"}, {"-100000 -100000:0", "-100000 0:0"}, {"-50000 50000:0", "0 0:0"}, {"-100000 100000:0", "0 0:0"}, {"100000 0:0 -100000:1", "100000 0:0 0:1"}, {"100000 -100000:0 -100000:1,0", "100000 -100000:0 0:1,0"},
		{"-99999 1:0", "-49999 -49999:0"}, {"-99999 0:0 -99999:0 1:0", "-99998 -1:0 -100000:0 0:0"}, {"-100000 0:0 -100000:0 1:0", ""}, {"-99999 0:0 -100000:0 2:0", ""}, {"-100000 -100000:0 0:0", "-100000 0:0 0:0"},
	} {
		want, code := clusterAsLists(grammarCluster(c.want), impl.ErrNone)
		if len(want) == 0 {
			code = impl.ErrLimit
		}
		given := grammarCluster(c.text)
		checkCluster(t, "UnloadStep", step, given, want, code)
		checkStep(t, given)
	}
}

// TestUnloadingsWithRests checks clusters with 250 to 10^8 single steps, in which unloading many points together leads
// to fractions again and again. Single steps at the points with the least excesses have led to the same weights.
func TestUnloadingsWithRests(t *testing.T) {
	for _, c := range []struct{ text, unloaded string }{
		{
			"0 0:0 0:1 0:0 0:3,0 50959:4 0:5 34572:3 0:7 0:8 0:9 0:10 0:11 0:12,11 0:6 16688:14 0:15 0:16 71356:17 0:18 37835:19 0:20 55058:20 -71274:22",
			"28988 0:0 0:1 14494:0 14494:3,0 14494:4 14494:5 0:3 0:7 0:8 0:9 0:10 0:11 0:12,11 14493:6 14493:14 14493:15 14493:16 14493:17 14493:18 14493:19 0:20 14493:20 0:22",
		},
		{
			"0 0:0 0:1 0:2 0:3 0:4 0:5 0:6 0:7 0:8 0:9 0:10 100000:11 0:12 0:13 0:14 0:15 0:16 0:17 0:18 0:19 100000:20 100000:21 0:22",
			"13044 13044:0 13044:1 13044:2 13044:3 13044:4 13044:5 13044:6 13044:7 13044:8 13044:9 13043:10 13043:11 13043:12 13043:13 13043:14 13043:15 13043:16 13043:17 13043:18 13043:19 13043:20 13043:21 0:22",
		},
		{
			"-1 2:0 4:1,0 -1:2,0 -3:3 -4:4 -3:5 5:6 5:7 2:8 4:9 -4:10 3:11 -2:12 2:13 -2:14 1:15 -5:16 -1:17 5:18 3:19 4:20 5:21 2:22",
			"3 1:0 1:1,0 1:2,0 1:3 1:4 1:5 1:6 1:7 1:8 1:9 0:10 0:11 0:12 0:13 0:14 0:15 0:16 0:17 0:18 0:19 0:20 0:21 0:22",
		},
		{
			"5 0:0 0:1 -8765:2,1 54760:3,2 -96356:4 0:4,2 0:5 0:7 56819:7 1:9 0:10 -1:0 69033:10 -17862:13,10 -99057:8,7 0:15,8 0:16,8 -18020:8 0:12 -16:19,12 94768:20,12 -94222:8 33247:10",
			"15918 4164:0 2776:1 1387:2,1 1387:3,2 1387:4 0:4,2 1387:5 0:7 1387:7 1387:9 0:10 11753:0 1387:10 0:13,10 0:8,7 0:15,8 0:16,8 0:8 3917:12 3917:19,12 3917:20,12 0:8 0:10",
		},
		{
			"0 -3:0 0:1,0 1:2,0 -4:3 -22041:4 57549:5,4 12677:6 29250:3,0 -7972:8,3 0:7,6 0:10 -77161:11 0:12 14849:13 71528:14 -1:15 29285:16 -16370:17,16 0:17 1:19 -82832:20 0:20,19 33261:22,20",
			"7056 2352:0 2352:1,0 2351:2,0 2351:3 1175:4 1175:5,4 587:6 0:3,0 0:8,3 587:7,6 587:10 587:11 587:12 587:13 587:14 587:15 587:16 0:17,16 587:17 391:19 0:20 195:20,19 195:22,20",
		},
		{
			"1 0:0 1:1 0:2 0:3,2 49873:4,3 -10870:5 -15684:6 0:7 0:8 -98634:9,8 21149:10 43275:6 35403:12 -96851:13 44943:14 -11954:15 70524:16 -41388:17 45059:18 -16232:19 0:20 76346:21 -2:14",
			"12543 12543:0 12543:1 8362:2 4181:3,2 4181:4,3 4181:5 0:6 0:7 0:8 0:9,8 0:10 4180:6 4180:12 4180:13 4180:14 4180:15 4180:16 4180:17 4180:18 4180:19 4180:20 4180:21 0:14",
		},
		{
			"-2 0:0 -12013:1,0 60778:2,1 -1:3,1 -29436:4 0:5,4 -54036:6 -23971:5 -24666:8 48423:9 2:10 0:8 -5:10 3:13 82002:14 78251:15 -14885:16 0:17 84029:18 0:19 0:20 22638:21 -28589:6,5",
			"25824 19368:0 6456:1,0 6456:2,1 6456:3,1 6456:4 0:5,4 0:6 6455:5 6455:8 6455:9 0:10 0:8 6455:10 6455:13 6455:14 6455:15 6455:16 6455:17 6455:18 6455:19 6455:20 6455:21 0:6,5",
		},
		{
			"0 0:0 0:1 -22798:2,1 0:3,2 -4793:4,3 0:5,3 -24176:6 0:7 -46710:8 0:9 22438:10 -1:11 28581:12 0:13 -3:14 38339:15 -5:16 25246:17 3:18 1:19 38900:20 1:21 0:5,4",
			"469 469:0 268:1 200:2,1 66:3,2 66:4,3 66:5,3 66:6 66:7 66:8 66:9 66:10 66:11 66:12 66:13 66:14 66:15 66:16 66:17 66:18 66:19 66:20 1:21 0:5,4",
		},
		{
			"0 0:0 0:1,0 0:2,1 0:3,2 0:4,3 0:5,4 0:6,5 0:7,6 0:8,7 0:9,8 0:10,9 0:11,10 0:12,11 0:13,12 0:14,13 0:15,14 0:16,15 0:17,16 0:18,17 0:19,18 0:20,19 0:21,20 7:22,21",
			"1 0:0 0:1,0 0:2,1 0:3,2 0:4,3 0:5,4 0:6,5 0:7,6 0:8,7 0:9,8 0:10,9 0:11,10 0:12,11 0:13,12 0:14,13 0:15,14 0:16,15 0:17,16 0:18,17 0:19,18 0:20,19 0:21,20 0:22,21",
		},
		{
			"0 0:0 5:1,0 0:2,1 0:3,2 0:4,3 -70000:5,4 0:6,5 99999:7,6 0:8,7 0:9,8 0:10,9 0:11,10 0:12,11 0:13,12 0:14,13 0:15,14 0:16,15 0:17,16 0:18,17 0:19,18 0:20,19 0:21,20 100000:22,21",
			"2 1:0 0:1,0 0:2,1 0:3,2 0:4,3 0:5,4 0:6,5 0:7,6 0:8,7 0:9,8 0:10,9 0:11,10 0:12,11 0:13,12 0:14,13 0:15,14 0:16,15 0:17,16 0:18,17 0:19,18 0:20,19 0:21,20 0:22,21",
		},
	} {
		given, unloaded := grammarCluster(c.text), grammarCluster(c.unloaded)
		if len(given.Weights) != mostCluster || len(unloaded.Weights) != mostCluster {
			t.Fatalf("%q or %q is no text", c.text, c.unloaded)
		}
		checkUnloaded(t, given, unloaded.Weights)
	}
}

// TestUnloadedClusters checks the first two parts of promise 8: the unloaded cluster is consistent, its orders are
// not less, and it is kept by single steps.
func TestUnloadedClusters(t *testing.T) {
	r := rand.New(rand.NewSource(87))
	clusters := someClusters()
	for n := range 2000 {
		clusters = append(clusters, randomCluster(r, 10+r.Intn(mostCluster-9), 10-n%4, 10-n%3, []int64{2, 30, 1000, mostWeight}[n%4]))
	}
	kept, limited := 0, 0
	for _, c := range clusters {
		unloaded, code := impl.UnloadCluster(c)
		if code == impl.ErrLimit {
			limited++
			continue
		}
		if ok, _ := impl.IsConsistent(unloaded); !ok || code != impl.ErrNone {
			t.Errorf("UnloadCluster(%v) = %v, %d", c, unloaded, code)
			continue
		}
		before, _ := impl.ClusterOrders(c)
		after, _ := impl.ClusterOrders(unloaded)
		for i := range after {
			if after[i] < before[i] {
				t.Errorf("UnloadCluster(%v) = %v with less orders: %v, before %v", c, unloaded, after, before)
			}
		}
		lists, _ := clusterAsLists(unloaded, 0)
		checkUnloaded(t, unloaded, unloaded.Weights)
		checkCluster(t, "UnloadStep", unloadFunctions()["UnloadStep"], unloaded, nil, impl.ErrNotFound)
		for step, code := impl.UnloadStep(c); code == impl.ErrNone && r.Intn(8) > 0; step, code = impl.UnloadStep(step) {
			checkCluster(t, "UnloadCluster", unloadFunctions()["UnloadCluster"], step, lists, impl.ErrNone)
			kept++
		}
	}
	if kept < 10000 || limited < 15 {
		t.Errorf("%d single steps keep the unloaded cluster, %d are beyond the range", kept, limited)
	}
}

// TestSingleStepsToTheEnd checks that single steps lead to the unloaded cluster, each one by raising one order.
func TestSingleStepsToTheEnd(t *testing.T) {
	r := rand.New(rand.NewSource(88))
	for n := range 1500 {
		c := randomCluster(r, 1+r.Intn(12), n%11, n/11%11, 1+r.Int63n(20))
		want, steps := slowUnload(c, choices(r)[3], 2000)
		if want == nil {
			continue
		}
		for range steps {
			next, code := impl.UnloadStep(c)
			before, _ := impl.ClusterOrders(c)
			after, _ := impl.ClusterOrders(next)
			raised := 0
			for i := range after {
				if after[i] > before[i] {
					raised++
				} else if after[i] < before[i] {
					raised = 2
				}
			}
			if raised != 1 || code != impl.ErrNone {
				t.Fatalf("UnloadStep(%v) = %v, %d", c, next, code)
			}
			c = next
		}
		if _, code := impl.UnloadStep(c); !slices.Equal(c.Weights, want) || code != impl.ErrNotFound {
			t.Errorf("%d steps lead to %v; wanted %v", steps, c, want)
		}
	}
}

// consistentClusters returns pairs of consistent clusters that are alike.
func consistentClusters() [][2]impl.Cluster {
	r := rand.New(rand.NewSource(89))
	var sets [][][]int64
	for count := 1; count <= 5; count++ {
		sets = append(sets, allPointSets(count)...)
	}
	for _, c := range wideClusters() {
		sets = append(sets, proximatesOfCluster(c))
	}
	var pairs [][2]impl.Cluster
	for n, proximates := range sets {
		var pair [2]impl.Cluster
		for k := range pair {
			excesses := repeated(0, len(proximates))
			for range r.Intn(4) {
				excesses[r.Intn(len(excesses))] += 1 + r.Int63n([]int64{1, 4, 50}[n%3])
			}
			weights := weightsByExcesses(proximates, excesses)
			if slices.Max(weights) > mostWeight/2 {
				weights = repeated(0, len(proximates))
			}
			pair[k] = clusterWith(proximates, weights)
		}
		pairs = append(pairs, pair)
	}
	return pairs
}

// TestSumsOfConsistentClusters checks the last part of promise 8: sums of consistent clusters have the sums of the
// codimensions and the mixed product as codimension; and they are their own unloaded clusters.
func TestSumsOfConsistentClusters(t *testing.T) {
	different := 0
	for _, pair := range consistentClusters() {
		c, d := pair[0], pair[1]
		sum := withWeights(c, c.Weights...)
		var product int64
		for i, w := range d.Weights {
			sum.Weights[i] += w
			product += c.Weights[i] * w
		}
		for _, e := range []impl.Cluster{c, d, sum} {
			checkUnloaded(t, e, e.Weights)
		}
		want, _ := numberAsLists(product, 0)
		checkCluster(t, "MixedProduct", mixedWith(t, d), c, want, impl.ErrNone)
		checkCluster(t, "MixedProduct", mixedWith(t, c), d, want, impl.ErrNone)
		var codimensions, squares [3]int64
		for k, e := range []impl.Cluster{c, d, sum} {
			codimensions[k], _ = impl.CodimensionOf(e)
			squares[k], _ = impl.SquareOfCluster(e)
		}
		mixed, code := impl.MixedProduct(c, d)
		if codimensions[2] != codimensions[0]+codimensions[1]+mixed || squares[2] != squares[0]+squares[1]+2*mixed || code != impl.ErrNone {
			t.Errorf("%v and %v and their sum have the codimensions %v, the squares %v and the mixed product %d, %d", c, d, codimensions, squares, mixed, code)
		}
		if mixed != 0 && mixed != squares[0] {
			different++
		}
	}
	if different < 500 {
		t.Errorf("only %d mixed products are not 0", different)
	}
}

// TestMixedProducts checks mixed products of clusters that are not consistent against steps at other points.
func TestMixedProducts(t *testing.T) {
	r := rand.New(rand.NewSource(90))
	codes := map[int64]int{}
	for n := range 1500 {
		c := randomCluster(r, 1+r.Intn(12), n%11, n/11%11, []int64{3, 40, mostWeight}[n%3])
		other := randomCluster(r, len(c.Weights), 0, 0, []int64{3, mostWeight, mostWeight}[n%3])
		d := withWeights(c, other.Weights...)
		first, _ := slowUnload(c, choices(r)[0], 3000)
		second, _ := slowUnload(d, choices(r)[2], 3000)
		if first == nil || second == nil {
			continue
		}
		want, code := [][]int64(nil), int64(impl.ErrLimit)
		if inWeightRange(first) && inWeightRange(second) {
			var product int64
			for i, w := range first {
				product += w * second[i]
			}
			want, code = numberAsLists(product, impl.ErrNone)
		}
		codes[code]++
		checkCluster(t, "MixedProduct", mixedWith(t, d), c, want, code)
		checkCluster(t, "MixedProduct", mixedWith(t, c), d, want, code)
	}
	if codes[impl.ErrNone] < 900 || codes[impl.ErrLimit] < 20 {
		t.Errorf("codes are %v", codes)
	}
	// One of them beyond the range of weights, both, and none.
	points := cluster([]int64{-1, 0, 0}, repeated(-1, 3), repeated(0, 3))
	in, out := withWeights(points, mostWeight, 50000, 50000), withWeights(points, mostWeight, 50000, 50001)
	checkCluster(t, "MixedProduct", mixedWith(t, in), in, [][]int64{{15000000000}}, impl.ErrNone)
	checkCluster(t, "MixedProduct", mixedWith(t, out), in, nil, impl.ErrLimit)
	checkCluster(t, "MixedProduct", mixedWith(t, in), out, nil, impl.ErrLimit)
	checkCluster(t, "MixedProduct", mixedWith(t, out), out, nil, impl.ErrLimit)
	checkCluster(t, "MixedProduct", mixedWith(t, out), points, nil, impl.ErrLimit)
}

// TestMixedProductsNotAlike checks clusters that are not alike, and that this comes before weights beyond their range.
func TestMixedProductsNotAlike(t *testing.T) {
	var clusters []impl.Cluster
	for count := 1; count <= 4; count++ {
		for _, proximates := range allPointSets(count) {
			clusters = append(clusters, clusterWith(proximates, []int64{0, mostWeight, mostWeight, mostWeight}[:count]))
		}
	}
	for _, c := range append(clusters, withWeights(twoBefore(mostCluster), repeated(mostWeight, mostCluster)...)) {
		for _, d := range append(clusters, withWeights(rowOfPoints(mostCluster, nil), repeated(1, mostCluster)...)) {
			if slices.Equal(c.Parents, d.Parents) && slices.Equal(c.Seconds, d.Seconds) {
				continue
			}
			checkCluster(t, "MixedProduct", mixedWith(t, d), c, nil, impl.ErrRange)
			checkCluster(t, "MixedProduct", mixedWith(t, withWeights(d, repeated(0, len(d.Weights))...)), c, nil, impl.ErrRange)
		}
	}
}

// TestFactors checks that consistent clusters are the sums of the simple clusters of their factors.
func TestFactors(t *testing.T) {
	many := 0
	factorsOf := unloadFunctions()["FactorsOf"]
	for _, pair := range consistentClusters() {
		for _, c := range pair {
			factors, code := impl.FactorsOf(c)
			sum := repeated(0, len(c.Weights))
			last := int64(-1)
			for _, factor := range factors {
				if len(factor) != 2 || factor[0] <= last || factor[1] < 1 {
					t.Fatalf("FactorsOf(%v) = %v, %d", c, factors, code)
				}
				last = factor[0]
				simple, _ := impl.SimpleCluster(c, last)
				for i, w := range simple.Weights {
					sum[i] += factor[1] * w
				}
			}
			if !slices.Equal(sum, c.Weights) || code != impl.ErrNone {
				t.Errorf("FactorsOf(%v) = %v, %d, which make %v", c, factors, code, sum)
			}
			checkCluster(t, "FactorsOf", factorsOf, c, copyLists(factors), impl.ErrNone)
			if len(factors) > 1 {
				many++
			}
		}
	}
	if many < 500 {
		t.Errorf("only %d clusters have several factors", many)
	}
	// An excess of -1, 0 or 1 at each point, and 2 at the first one.
	for _, proximates := range allPointSets(4) {
		for i := range int64(4) {
			for excess := int64(-1); excess <= 1; excess++ {
				excesses := []int64{2, 0, 0, 0}
				excesses[i] = excess
				var want [][]int64
				for k, e := range excesses {
					if e > 0 {
						want = append(want, []int64{int64(k), e})
					}
				}
				code := int64(impl.ErrNone)
				if excess < 0 {
					want, code = nil, impl.ErrState
				}
				checkCluster(t, "FactorsOf", factorsOf, clusterWith(proximates, weightsByExcesses(proximates, excesses)), want, code)
			}
		}
	}
}

// slowPath returns the path of a point.
func slowPath(c impl.Cluster, i int64) []int64 {
	if i == 0 {
		return []int64{0}
	}
	return append(slowPath(c, c.Parents[i]), i)
}

// TestPathsAndBranches checks paths, and branches at points against curvettes that the test makes from the points of
// the path: their multiplicities are the weights of the simple cluster.
func TestPathsAndBranches(t *testing.T) {
	codes := map[int64]int{}
	leaving, satellites := 0, 0
	for _, c := range someClusters() {
		proximates := proximatesOfCluster(c)
		for i := range int64(len(c.Parents)) {
			path := slowPath(c, i)
			checkCluster(t, "PathOf", pathTo(i), c, [][]int64{path}, impl.ErrNone)
			if int64(len(path)) <= i {
				leaving++
			}
			ofPath := make([][]int64, len(path))
			for n, point := range path {
				for _, j := range proximates[point] {
					ofPath[n] = append(ofPath[n], int64(slices.Index(path, j)))
				}
			}
			satellites += int(countSatellites(ofPath))
			multiplicities := slowCurvette(ofPath)
			want, code := [][]int64(nil), int64(impl.ErrState)
			if multiplicities[0] <= mostN {
				want, code = listAsLists(slowBranchOfSequence(multiplicities), impl.ErrNone)
			}
			codes[code]++
			checkCluster(t, "BranchAtPoint", branchAt(i), c, want, code)
			simple, _ := impl.SimpleCluster(c, i)
			for n, point := range path {
				if simple.Weights[point] != multiplicities[n] {
					t.Errorf("SimpleCluster(%v, %d) = %v; wanted %v on the path %v", c, i, simple, multiplicities, path)
				}
			}
		}
	}
	if codes[impl.ErrNone] < 10000 || codes[impl.ErrState] < 200 || leaving < 5000 || satellites < 10000 {
		t.Errorf("codes are %v, %d paths leave points, %d satellites are on paths", codes, leaving, satellites)
	}
}

// TestBranchesAtPoints checks branches at some points, and multiplicities of 64 and beyond.
func TestBranchesAtPoints(t *testing.T) {
	long := append(repeated(-1, 2), repeated(0, 22)...)
	row := rowOfPoints(mostCluster, nil)
	for _, c := range []struct {
		c    impl.Cluster
		i    int64
		want []int64
	}{
		{grammarCluster("2 1:0 1:1,0"), 0, []int64{1}}, {grammarCluster("2 1:0 1:1,0"), 1, []int64{1}}, {grammarCluster("2 1:0 1:1,0"), 2, []int64{2, 3}}, {grammarCluster("0 0:0 0:0 0:0 0:2,0 0:1,0 0:5,1"), 4, []int64{2, 3}},
		{grammarCluster("0 0:0 0:0 0:0 0:2,0 0:1,0 0:5,1"), 6, []int64{3, 5}}, {grammarCluster("0 0:0 0:0 0:0 0:2,0 0:4,0 0:5"), 6, []int64{3, 4}}, {grammarCluster("0 0:0 0:0 0:0 0:2,0 0:4,0 0:5"), 3, []int64{1}},
		{grammarCluster("0 0:0 0:0 0:2 0:3 0:3,2 0:5 0:6,5 0:7,5"), 8, []int64{6, 15, 16}}, {grammarCluster("4 2:0 2:1,0 1:2 1:3,2"), 4, []int64{4, 6, 7}}, {grammarCluster("4 2:0 2:1,0 1:2 1:3,2"), 3, []int64{2, 3}},
		{twoBefore(mostCluster), 9, []int64{55, 89}}, {twoBefore(mostCluster), 10, nil}, {twoBefore(mostCluster), 23, nil}, {cluster(row.Parents, long, row.Weights), 23, []int64{23, 24}}, {row, 23, []int64{1}},
		{grammarCluster("0 0:0 0:1,0 0:2 0:3,2 0:4 0:5,4 0:6 0:7,6 0:8 0:9,8 0:10 0:11,10 0:12 0:13,12"), 12, []int64{64, 96, 112, 120, 124, 126, 127}},
		{grammarCluster("0 0:0 0:1,0 0:2 0:3,2 0:4 0:5,4 0:6 0:7,6 0:8 0:9,8 0:10 0:11,10 0:12 0:13,12"), 13, []int64{64, 96, 112, 120, 124, 126, 127}},
		{grammarCluster("0 0:0 0:1,0 0:2 0:3,2 0:4 0:5,4 0:6 0:7,6 0:8 0:9,8 0:10 0:11,10 0:12 0:13,12"), 14, nil},
	} {
		want, code := listAsLists(c.want, impl.ErrNone)
		if want == nil {
			code = impl.ErrState
		}
		checkCluster(t, "BranchAtPoint", branchAt(c.i), c.c, want, code)
	}
	// Numbers of no points.
	for _, c := range []impl.Cluster{rowOfPoints(1, nil), rowOfPoints(2, nil), clusterCases()[4].c, twoBefore(mostCluster)} {
		count := int64(len(c.Parents))
		for _, i := range []int64{-1, -2, -count, count, count + 1, mostCluster, 1 << 32, 1<<32 + count - 1, -1 << 32, math.MaxInt64, math.MinInt64, math.MinInt64 + 1} {
			checkCluster(t, "PathOf", pathTo(i), c, nil, impl.ErrRange)
			checkCluster(t, "BranchAtPoint", branchAt(i), c, nil, impl.ErrRange)
		}
		checkCluster(t, "PathOf", pathTo(count-1), c, [][]int64{slowPath(c, count-1)}, impl.ErrNone)
		checkCluster(t, "PathOf", pathTo(0), c, [][]int64{{0}}, impl.ErrNone)
	}
}

// TestPointsOfClustersOfBranches checks that the points of clusters of branches have the discrepancies, the curvettes
// and, from the first pair on, the threshold of the branch.
func TestPointsOfClustersOfBranches(t *testing.T) {
	thresholds := 0
	for _, terms := range pointBranches() {
		b := impl.Branch{Terms: terms}
		for _, k := range []int64{1, 2, 3, 7, mostCluster} {
			c, _ := impl.ClusterOfBranch(b, k)
			discrepancies, _ := impl.DiscrepanciesOf(b, k)
			checkCluster(t, "PointDiscrepancies", unloadFunctions()["PointDiscrepancies"], c, [][]int64{discrepancies}, impl.ErrNone)
			for j := range k {
				curvette, code := impl.CurvetteAt(b, j)
				checkCluster(t, "BranchAtPoint", branchAt(j), c, [][]int64{curvette.Terms}, code)
			}
			if len(terms) > 1 && len(slowRuns(terms[:2])) <= int(k) {
				threshold, _ := fractionAsLists(impl.ThresholdOfBranch(b))
				checkCluster(t, "LeastThreshold", unloadFunctions()["LeastThreshold"], c, threshold, impl.ErrNone)
				thresholds++
			}
		}
	}
	if thresholds < 500 {
		t.Errorf("only %d thresholds are checked", thresholds)
	}
}

// TestPointDiscrepancies checks discrepancies of all clusters, consistent or not.
func TestPointDiscrepancies(t *testing.T) {
	for _, c := range someClusters() {
		proximates := proximatesOfCluster(c)
		checkCluster(t, "PointDiscrepancies", unloadFunctions()["PointDiscrepancies"], c, [][]int64{slowSums(proximates, repeated(1, len(proximates)))}, impl.ErrNone)
	}
	if d, code := impl.PointDiscrepancies(twoBefore(mostCluster)); len(d) != mostCluster || d[0] != 1 || d[23] != 121392 || code != impl.ErrNone {
		t.Errorf("the greatest discrepancies are %v, %d", d, code)
	}
}

// TestClusterOfOrders checks orders of clusters, and that those of its result are the ones told.
func TestClusterOfOrders(t *testing.T) {
	told := 0
	for _, c := range someClusters() {
		orders := slowSums(proximatesOfCluster(c), c.Weights)
		given := withWeights(c, repeated(7, len(c.Weights))...)
		if slices.Max(orders) > mostOrder || slices.Min(orders) < -mostOrder {
			checkCluster(t, "ClusterOfOrders", withOrders(t, orders), given, nil, impl.ErrRange)
			continue
		}
		told++
		checkCluster(t, "ClusterOfOrders", withOrders(t, orders), given, [][]int64{c.Parents, c.Seconds, c.Weights}, impl.ErrNone)
	}
	if told < 800 {
		t.Errorf("only %d orders are in their range", told)
	}
	r := rand.New(rand.NewSource(91))
	codes := map[int64]int{}
	for n := range 3000 {
		c := randomCluster(r, 1+r.Intn(8), n%11, 5, mostWeight)
		orders := make([]int64, len(c.Weights))
		for i := range orders {
			orders[i] = r.Int63n(2*mostOrder+1) - mostOrder
			if n%3 == 0 {
				orders[i] /= 2
			}
		}
		want, code := [][]int64(nil), int64(impl.ErrLimit)
		if weights := weightsByOrders(proximatesOfCluster(c), orders); inWeightRange(weights) {
			want, code = [][]int64{c.Parents, c.Seconds, weights}, impl.ErrNone
		}
		codes[code]++
		checkCluster(t, "ClusterOfOrders", withOrders(t, orders), c, want, code)
	}
	if codes[impl.ErrNone] < 500 || codes[impl.ErrLimit] < 500 {
		t.Errorf("codes are %v", codes)
	}
}

// TestOrdersToTheLimits checks lists of other lengths, and orders and weights at the ends of their ranges and beyond
// them.
func TestOrdersToTheLimits(t *testing.T) {
	one, two, three, most := rowOfPoints(1, nil), rowOfPoints(2, nil), twoBefore(3), twoBefore(mostCluster)
	for _, c := range []struct {
		c               impl.Cluster
		orders, weights []int64
		code            int64
	}{
		{three, []int64{2, 3, 6}, []int64{2, 1, 1}, 0}, {three, []int64{0, 0, 0}, []int64{0, 0, 0}, 0}, {three, []int64{-1, 5, 2}, []int64{-1, 6, -2}, 0}, {one, []int64{7}, []int64{7}, 0}, {most, repeated(0, 24), repeated(0, 24), 0},
		{three, nil, nil, impl.ErrRange}, {three, []int64{}, nil, impl.ErrRange}, {three, []int64{2, 3}, nil, impl.ErrRange}, {three, []int64{2, 3, 6, 7}, nil, impl.ErrRange}, {three, []int64{2, 3, 6, 0}, nil, impl.ErrRange},
		{one, nil, nil, impl.ErrRange}, {one, []int64{1, 1}, nil, impl.ErrRange}, {most, repeated(0, 23), nil, impl.ErrRange}, {most, repeated(0, 25), nil, impl.ErrRange}, {most, repeated(0, 5000), nil, impl.ErrRange},
		{one, []int64{mostOrder}, []int64{mostOrder}, 0}, {one, []int64{-mostOrder}, []int64{-mostOrder}, 0}, {one, []int64{mostOrder + 1}, nil, impl.ErrRange}, {one, []int64{-mostOrder - 1}, nil, impl.ErrRange},
		{two, []int64{mostOrder, mostOrder}, []int64{mostOrder, 0}, 0}, {two, []int64{0, mostOrder}, []int64{0, mostOrder}, 0}, {two, []int64{0, mostOrder + 1}, nil, impl.ErrRange}, {two, []int64{0, -mostOrder - 1}, nil, impl.ErrRange},
		{two, []int64{1, mostOrder + 1}, nil, impl.ErrRange}, {two, []int64{-mostOrder - 1, -mostOrder}, nil, impl.ErrRange}, {two, []int64{math.MinInt64, 0}, nil, impl.ErrRange}, {two, []int64{0, math.MaxInt64}, nil, impl.ErrRange},
		{two, []int64{math.MinInt64, math.MinInt64}, nil, impl.ErrRange}, {two, []int64{1 << 32, 1 << 32}, nil, impl.ErrRange}, {three, []int64{0, 0, mostOrder + 1}, nil, impl.ErrRange}, {three, []int64{0, 0, math.MinInt64}, nil, impl.ErrRange},
		// Weights at the ends of their range, beyond it, and with orders or lengths that are out of theirs.
		{two, []int64{-1, mostOrder - 1}, []int64{-1, mostWeight}, 0}, {two, []int64{-1, mostOrder}, nil, impl.ErrLimit}, {two, []int64{1, 1 - mostOrder}, []int64{1, -mostWeight}, 0}, {two, []int64{1, -mostOrder}, nil, impl.ErrLimit},
		{two, []int64{mostOrder, -mostOrder}, nil, impl.ErrLimit}, {two, []int64{-mostOrder, mostOrder}, nil, impl.ErrLimit}, {two, []int64{-mostOrder, mostOrder + 1}, nil, impl.ErrRange}, {two, []int64{-mostOrder, mostOrder, 0}, nil, impl.ErrRange},
		{three, []int64{50000, 50000, 0}, []int64{50000, 0, -mostWeight}, 0}, {three, []int64{50000, 50001, 0}, nil, impl.ErrLimit}, {three, []int64{-50000, -50000, 0}, []int64{-50000, 0, mostWeight}, 0}, {three, []int64{-50000, -50000, 1}, nil, impl.ErrLimit},
		{three, []int64{mostOrder, mostOrder, -mostOrder}, nil, impl.ErrLimit}, {three, []int64{mostOrder, mostOrder, mostOrder}, []int64{mostOrder, 0, -mostWeight}, 0}, {three, []int64{-mostOrder, mostOrder, 0}, nil, impl.ErrLimit},
	} {
		for _, w := range []int64{0, mostWeight, -7} {
			given := withWeights(c.c, repeated(w, len(c.c.Parents))...)
			var want [][]int64
			if c.code == impl.ErrNone {
				want = [][]int64{c.c.Parents, c.c.Seconds, c.weights}
			}
			checkCluster(t, "ClusterOfOrders", withOrders(t, c.orders), given, want, c.code)
		}
	}
}

// floorOf returns the greatest integer that is not greater than a / b, for b greater than 0.
func floorOf(a, b int64) int64 {
	n := a / b
	for n*b > a {
		n--
	}
	return n
}

// multiplierOrders returns the orders of which the multiplier cluster is the unloaded one.
func multiplierOrders(c impl.Cluster, f impl.Fraction) []int64 {
	proximates := proximatesOfCluster(c)
	orders, discrepancies := slowSums(proximates, c.Weights), slowSums(proximates, repeated(1, len(proximates)))
	for i := range orders {
		orders[i] = floorOf(f.Top*orders[i], f.Bottom) - discrepancies[i]
	}
	return orders
}

// slowThreshold returns the least one of the fractions of 1 plus the discrepancy over the order of a point, in
// lowest terms, or {0, 0} if there is none.
func slowThreshold(c impl.Cluster) impl.Fraction {
	proximates := proximatesOfCluster(c)
	orders, discrepancies := slowSums(proximates, c.Weights), slowSums(proximates, repeated(1, len(proximates)))
	least := fraction(0, 0)
	for i, order := range orders {
		if top := 1 + discrepancies[i]; order > 0 && (least.Bottom == 0 || top*least.Bottom < least.Top*order) {
			d := slowDivisor(top, order)
			least = fraction(top/d, order/d)
		}
	}
	return least
}

// lowest returns a fraction that is not negative in lowest terms.
func lowest(top, bottom int64) impl.Fraction {
	if top == 0 {
		return fraction(0, 1)
	}
	d := slowDivisor(top, bottom)
	return fraction(top/d, bottom/d)
}

// idealClusters returns consistent clusters none of whose weights is greater than 1000.
func idealClusters() []impl.Cluster {
	var clusters []impl.Cluster
	for _, pair := range consistentClusters() {
		for _, c := range pair {
			if slices.Max(c.Weights) <= mostMultiplied {
				clusters = append(clusters, c)
			}
		}
	}
	return append(clusters, withWeights(twoBefore(4), 1000, 500, 300, 200), cluster([]int64{-1}, []int64{-1}, []int64{1000}), withWeights(rowOfPoints(mostCluster, nil), repeated(1000, mostCluster)...))
}

// TestMultiplierClusters checks multiplier clusters against orders that the test makes and steps at other points.
func TestMultiplierClusters(t *testing.T) {
	r := rand.New(rand.NewSource(92))
	nonzero := 0
	for n, c := range idealClusters() {
		for k := range int64(4) {
			bottom := 1 + r.Int63n([]int64{3, 12, 200, mostFractionParts}[k])
			f := lowest(r.Int63n([]int64{10, 10, 3, 2}[n%4]*bottom+1), bottom)
			start := withWeights(c, weightsByOrders(proximatesOfCluster(c), multiplierOrders(c, f))...)
			weights, _ := slowUnload(start, choices(r)[n%3], 2000)
			if weights == nil {
				continue
			}
			checkCluster(t, "MultiplierCluster", multipliedBy(f), c, [][]int64{c.Parents, c.Seconds, weights}, impl.ErrNone)
			if slices.Max(weights) > 0 {
				nonzero++
			}
		}
	}
	if nonzero < 1000 {
		t.Errorf("only %d multiplier clusters have weights other than 0", nonzero)
	}
}

// TestMultipliersAtThresholds checks that multiplier clusters of fractions less than the threshold have only weights
// 0, and that those of the threshold and of greater fractions have not.
func TestMultipliersAtThresholds(t *testing.T) {
	below, at, above := 0, 0, 0
	for _, c := range idealClusters() {
		zeros := [][]int64{c.Parents, c.Seconds, repeated(0, len(c.Weights))}
		threshold, code := impl.LeastThreshold(c)
		if slices.Max(c.Weights) == 0 {
			for _, f := range []impl.Fraction{fraction(0, 1), fraction(1, 1), fraction(2, 1), fraction(10, 1), fraction(9999, 1000)} {
				checkCluster(t, "MultiplierCluster", multipliedBy(f), c, zeros, impl.ErrNone)
			}
			continue
		}
		if threshold != slowThreshold(c) || code != impl.ErrNone {
			t.Fatalf("LeastThreshold(%v) = %v, %d", c, threshold, code)
		}
		// For each of these bottoms the fraction next below the threshold, and the next one that is not.
		for _, bottom := range []int64{1, 2, 7, 12, 360, 997, 999, mostFractionParts, threshold.Bottom, 2 * threshold.Bottom} {
			if bottom > mostFractionParts {
				continue
			}
			top := floorOf(threshold.Top*bottom, threshold.Bottom)
			if top*threshold.Bottom == threshold.Top*bottom {
				top--
				at++
			}
			if top >= 0 {
				below++
				checkCluster(t, "MultiplierCluster", multipliedBy(lowest(top, bottom)), c, zeros, impl.ErrNone)
			}
			f := lowest(top+1, bottom)
			d, code := impl.MultiplierCluster(c, f)
			if len(d.Weights) != len(c.Weights) || slices.Max(d.Weights) < 1 || code != impl.ErrNone {
				t.Errorf("MultiplierCluster(%v, %v) = %v, %d, where the threshold is %v", c, f, d, code, threshold)
			}
			above++
		}
	}
	if below < 5000 || at < 500 || above < 5000 {
		t.Errorf("%d fractions are below the thresholds, %d at them, %d not below", below, at, above)
	}
}

// TestSumsOfMultipliers checks that from the fraction 2 on multiplier clusters are the sum of the cluster and the
// multiplier cluster of the fraction less 1, as the theorem of Skoda tells.
func TestSumsOfMultipliers(t *testing.T) {
	r := rand.New(rand.NewSource(93))
	for _, c := range idealClusters() {
		bottom := 1 + r.Int63n(40)
		f := lowest(2*bottom+r.Int63n(8*bottom+1), bottom)
		less, code := impl.MultiplierCluster(c, fraction(f.Top-f.Bottom, f.Bottom))
		if len(less.Weights) != len(c.Weights) || code != impl.ErrNone {
			t.Fatalf("MultiplierCluster(%v, %v less 1) = %v, %d", c, f, less, code)
		}
		for i, w := range c.Weights {
			less.Weights[i] += w
		}
		checkCluster(t, "MultiplierCluster", multipliedBy(f), c, [][]int64{c.Parents, c.Seconds, less.Weights}, impl.ErrNone)
	}
}

// TestMultiplierLimits checks fractions and weights at the ends of their ranges, beyond them, and with clusters that
// are not consistent.
func TestMultiplierLimits(t *testing.T) {
	texts := func(text string) [][]int64 {
		lists, _ := clusterAsLists(grammarCluster(text), 0)
		return lists
	}
	for _, c := range []struct {
		text string
		f    impl.Fraction
		want string
		code int64
	}{
		{"2 1:0 1:1,0", fraction(5, 6), "1 0:0 0:1,0", 0}, {"2 1:0 1:1,0", fraction(4, 5), "0 0:0 0:1,0", 0}, {"2 1:0 1:1,0", fraction(833, 1000), "0 0:0 0:1,0", 0}, {"2 1:0 1:1,0", fraction(834, 1000), "", impl.ErrInvalid},
		{"2 1:0 1:1,0", fraction(417, 500), "1 0:0 0:1,0", 0}, {"2 1:0 1:1,0", fraction(0, 1), "0 0:0 0:1,0", 0}, {"2 1:0 1:1,0", fraction(1, 1), "1 0:0 0:1,0", 0}, {"2 1:0 1:1,0", fraction(7, 6), "1 1:0 0:1,0", 0}, {"2 1:0 1:1,0", fraction(2, 1), "3 1:0 1:1,0", 0},
		{"1", fraction(1, 1), "0", 0}, {"1", fraction(1999, 1000), "0", 0}, {"1", fraction(2, 1), "1", 0}, {"1", fraction(3, 1), "2", 0}, {"1", fraction(10, 1), "9", 0}, {"7", fraction(5, 7), "4", 0}, {"7", fraction(571, 1000), "2", 0},
		// The fractions 0, 10 and next to them, bottoms of 1000 and 1001.
		{"7", fraction(0, 1), "0", 0}, {"7", fraction(1, 1000), "0", 0}, {"7", fraction(999, 1000), "5", 0}, {"7", fraction(9999, 1000), "68", 0}, {"7", fraction(10, 1), "69", 0}, {"7", fraction(10001, 1000), "", impl.ErrRange}, {"7", fraction(11, 1), "", impl.ErrRange}, {"7", fraction(91, 9), "", impl.ErrRange}, {"7", fraction(89, 9), "68", 0},
		{"7", fraction(-1, 1000), "", impl.ErrRange}, {"7", fraction(-1, 1), "", impl.ErrRange}, {"7", fraction(1, 1001), "", impl.ErrRange}, {"7", fraction(1000, 1001), "", impl.ErrRange}, {"7", fraction(10009, 1001), "", impl.ErrRange}, {"7", fraction(-1, 1001), "", impl.ErrRange}, {"7", fraction(1, 1000000000), "", impl.ErrRange},
		{"7", fraction(1000000000, 1), "", impl.ErrRange}, {"7", fraction(-1000000000, 1), "", impl.ErrRange}, {"7", fraction(1000000000, 999999999), "", impl.ErrRange}, {"7", fraction(-1000000000, 999999999), "", impl.ErrRange},
		// Weights of 1000 and 1001, at all places, and clusters that are not consistent.
		{"1000", fraction(10, 1), "9999", 0}, {"1000", fraction(1, 1000), "0", 0}, {"1000", fraction(1, 500), "1", 0}, {"1001", fraction(1, 1), "", impl.ErrRange}, {"1001 0:0", fraction(0, 1), "", impl.ErrRange}, {"1000 1000:0", fraction(10, 1), "9999 9999:0", 0}, {"100000", fraction(1, 1), "", impl.ErrRange},
		{"1001 1001:0", fraction(1, 1), "", impl.ErrRange}, {"0 1000:0", fraction(1, 1), "", impl.ErrState}, {"0 1001:0", fraction(1, 1), "", impl.ErrRange}, {"0 1000:0", fraction(11, 1), "", impl.ErrRange}, {"0 1000:0", fraction(1, 1001), "", impl.ErrRange}, {"0 0:0 1001:1,0", fraction(1, 1), "", impl.ErrRange},
		{"-1", fraction(1, 1), "", impl.ErrState}, {"-1", fraction(0, 1), "", impl.ErrState}, {"-1001", fraction(1, 1), "", impl.ErrState}, {"-100000 1000:0", fraction(1, 1), "", impl.ErrState}, {"1 1:0 1:0", fraction(1, 1), "", impl.ErrState}, {"5 -1:0", fraction(1, 1), "", impl.ErrState}, {"-1 1001:0", fraction(11, 1), "", impl.ErrRange},
		// What is no fraction comes before all of this.
		{"7", fraction(0, 0), "", impl.ErrInvalid}, {"7", fraction(1, 0), "", impl.ErrInvalid}, {"7", fraction(0, 2), "", impl.ErrInvalid}, {"7", fraction(2, 2), "", impl.ErrInvalid}, {"7", fraction(1, -1), "", impl.ErrInvalid}, {"7", fraction(-1, -2), "", impl.ErrInvalid}, {"7", fraction(10, 4), "", impl.ErrInvalid},
		{"7", fraction(1, 1000000001), "", impl.ErrInvalid}, {"7", fraction(1000000001, 1), "", impl.ErrInvalid}, {"7", fraction(-1000000001, 2), "", impl.ErrInvalid}, {"7", fraction(math.MinInt64, 1), "", impl.ErrInvalid}, {"7", fraction(math.MaxInt64, 2), "", impl.ErrInvalid}, {"7", fraction(1, math.MinInt64), "", impl.ErrInvalid},
		{"7", fraction(math.MinInt64, math.MinInt64), "", impl.ErrInvalid}, {"1001", fraction(2, 4), "", impl.ErrInvalid}, {"0 1001:0", fraction(0, 0), "", impl.ErrInvalid}, {"0 1:0", fraction(22, 2), "", impl.ErrInvalid}, {"-1", fraction(2002, 2002), "", impl.ErrInvalid},
	} {
		checkCluster(t, "MultiplierCluster", multipliedBy(c.f), grammarCluster(c.text), texts(c.want), c.code)
	}
	most := withWeights(rowOfPoints(mostCluster, nil), repeated(1000, mostCluster)...)
	for i := range most.Weights {
		more := withWeights(most, most.Weights...)
		more.Weights[i] = 1001
		checkCluster(t, "MultiplierCluster", multipliedBy(fraction(1, 2)), more, nil, impl.ErrRange)
	}
}

// TestLeastThresholds checks thresholds of consistent clusters, in lowest terms, and of those that have none.
func TestLeastThresholds(t *testing.T) {
	leastThreshold := unloadFunctions()["LeastThreshold"]
	numbers := map[string]int{}
	clusters := idealClusters()
	r := rand.New(rand.NewSource(94))
	for n := range 3000 {
		c := randomCluster(r, 1+r.Intn(mostCluster), n%11, 10-n/11%5, 1)
		if n%10 == 0 {
			c = twoBefore(mostCluster - n%8)
		}
		proximates := proximatesOfCluster(c)
		excesses := repeated(0, len(proximates))
		if n%20 == 0 {
			// As often as the limit lets it at the last point.
			excesses[len(excesses)-1] = 1
			excesses[len(excesses)-1] = mostWeight / weightsByExcesses(proximates, excesses)[0]
		} else {
			for range 1 + r.Intn(3) {
				excesses[r.Intn(len(excesses))] = 1 + r.Int63n([]int64{5, 100, 3000, 100000}[n/10%4])
			}
		}
		if weights := weightsByExcesses(proximates, excesses); inWeightRange(weights) {
			clusters = append(clusters, withWeights(c, weights...))
		}
	}
	for _, c := range append(clusters, someClusters()...) {
		excesses := excessesByLists(proximatesOfCluster(c), c.Weights)
		want, code := fractionAsLists(slowThreshold(c), impl.ErrNone)
		switch threshold := slowThreshold(c); {
		case slices.Min(excesses) < 0:
			want, code = nil, impl.ErrState
			numbers["not consistent"]++
		case threshold.Bottom == 0:
			code = impl.ErrState
			numbers["zero"]++
		case threshold.Top > impl.MaxInteger || threshold.Bottom > impl.MaxInteger:
			want, code = nil, impl.ErrLimit
			numbers["limit"]++
		default:
			numbers["fractions"]++
		}
		checkCluster(t, "LeastThreshold", leastThreshold, c, want, code)
	}
	if numbers["not consistent"] < 500 || numbers["zero"] < 50 || numbers["limit"] < 20 || numbers["fractions"] < 2000 {
		t.Errorf("numbers are %v", numbers)
	}
	// Orders of the last one of 20 points, each of which is proximate to both points before it, next to MaxInteger.
	front := []int64{91358, 56462, 34895, 21567, 13328, 8237, 5091, 3146, 1943}
	for _, c := range []struct {
		weights []int64
		bottom  int64
	}{
		{[]int64{1201, 742, 459, 283, 175, 107, 66, 40, 26, 14, 10}, 999999999}, {[]int64{1202, 741, 458, 283, 175, 107, 66, 40, 26, 14, 11}, 1000000000}, {[]int64{1201, 742, 459, 283, 175, 107, 66, 40, 26, 13, 13}, 1000000001},
	} {
		want, code := [][]int64{{17711, c.bottom}}, int64(impl.ErrNone)
		if c.bottom > impl.MaxInteger {
			want, code = nil, impl.ErrLimit
		}
		checkCluster(t, "LeastThreshold", leastThreshold, withWeights(twoBefore(20), append(slices.Clone(front), c.weights...)...), want, code)
	}
	for _, c := range []struct {
		text string
		want impl.Fraction
		code int64
	}{
		{"2 1:0 1:1,0", fraction(5, 6), 0}, {"4 2:0 2:1,0", fraction(5, 12), 0}, {"5 2:0 2:1,0", fraction(5, 14), 0}, {"6 1:0 1:1,0", fraction(1, 3), 0}, {"100000", fraction(1, 50000), 0}, {"1", fraction(2, 1), 0}, {"2", fraction(1, 1), 0}, {"3", fraction(2, 3), 0}, {"1 1:0 1:1", fraction(4, 3), 0},
		{"0", fraction(0, 0), impl.ErrState}, {"0 0:0 0:1,0", fraction(0, 0), impl.ErrState}, {"-1", fraction(0, 0), impl.ErrState}, {"1 2:0", fraction(0, 0), impl.ErrState}, {"2 -1:0", fraction(0, 0), impl.ErrState},
	} {
		want, _ := fractionAsLists(c.want, 0)
		checkCluster(t, "LeastThreshold", leastThreshold, grammarCluster(c.text), want, c.code)
	}
}

// unlikeNumbers returns numbers of points for something that may be no cluster.
func unlikeNumbers(count int) []int64 {
	return []int64{0, 1, -1, int64(count), mostCluster, math.MaxInt64, math.MinInt64}
}

// TestInvalidUnloadings checks that all functions refuse what is no cluster, also with numbers, lists and fractions
// that are out of their ranges, weights that are too great, and with another cluster that is right or none.
func TestInvalidUnloadings(t *testing.T) {
	good := cluster([]int64{-1, 0, 1}, []int64{-1, -1, 0}, []int64{2, 1, 1})
	wrong := cluster([]int64{-1, 0, 1}, []int64{-1, -1, 0}, []int64{-2, 1, 1001})
	fractions := []impl.Fraction{fraction(1, 1), fraction(0, 1), fraction(11, 1), fraction(1, 1001), fraction(-1, 1), fraction(2, 2), fraction(0, 0), fraction(math.MinInt64, math.MinInt64)}
	for _, c := range invalidClusters() {
		for name, f := range unloadFunctions() {
			checkCluster(t, name, f, c, nil, impl.ErrInvalid)
		}
		for _, i := range unlikeNumbers(len(c.Parents)) {
			checkCluster(t, "PathOf", pathTo(i), c, nil, impl.ErrInvalid)
			checkCluster(t, "BranchAtPoint", branchAt(i), c, nil, impl.ErrInvalid)
		}
		for _, orders := range [][]int64{nil, {0}, repeated(0, len(c.Parents)), repeated(1, 3), repeated(mostOrder+1, len(c.Parents)), repeated(mostOrder, len(c.Parents)), repeated(math.MinInt64, len(c.Parents)+1)} {
			checkCluster(t, "ClusterOfOrders", withOrders(t, orders), c, nil, impl.ErrInvalid)
		}
		for _, f := range fractions {
			checkCluster(t, "MultiplierCluster", multipliedBy(f), c, nil, impl.ErrInvalid)
		}
		for _, d := range []impl.Cluster{good, wrong, c, {}, withWeights(good, mostWeight, mostWeight, mostWeight), rowOfPoints(4, nil), rowOfPoints(1, nil), twoBefore(mostCluster + 1), withWeights(good, mostWeight+1, 0, 0)} {
			checkCluster(t, "MixedProduct", mixedWith(t, d), c, nil, impl.ErrInvalid)
			checkCluster(t, "MixedProduct", mixedWith(t, c), d, nil, impl.ErrInvalid)
		}
	}
}

// TestUnloadingResultsAreNew checks that the lists of results share no memory with arguments or with each other.
func TestUnloadingResultsAreNew(t *testing.T) {
	consistent := grammarCluster("7 3:0 1:1,0 1:0 1:1 1:2,0 0:2")
	loose := clusterCases()[4].c
	for _, given := range []impl.Cluster{consistent, loose, rowOfPoints(3, nil), grammarCluster("5"), grammarCluster("-5")} {
		orders := slowSums(proximatesOfCluster(given), given.Weights)
		results := map[string]clusterFunction{
			"UnloadStep":      func(c impl.Cluster) ([][]int64, int64) { return clusterAsLists(impl.UnloadStep(c)) },
			"UnloadCluster":   func(c impl.Cluster) ([][]int64, int64) { return clusterAsLists(impl.UnloadCluster(c)) },
			"ClusterOfOrders": func(c impl.Cluster) ([][]int64, int64) { return clusterAsLists(impl.ClusterOfOrders(c, orders)) },
			"MultiplierCluster": func(c impl.Cluster) ([][]int64, int64) {
				return clusterAsLists(impl.MultiplierCluster(c, fraction(3, 2)))
			},
			"FactorsOf":          impl.FactorsOf,
			"PathOf":             pathTo(0),
			"BranchAtPoint":      branchAt(int64(len(given.Weights) - 1)),
			"PointDiscrepancies": unloadFunctions()["PointDiscrepancies"],
		}
		for name, f := range results {
			checkClusterKept(t, name, given, func(c impl.Cluster) {
				lists, code := f(c)
				kept := copyLists(lists)
				for i := range lists {
					scribble(lists[i])
					_ = append(lists[i], -98)
					if !sameLists(lists[i+1:], kept[i+1:]) {
						t.Errorf("%s: list %d shares memory with lists behind it: %v", name, i, lists)
					}
				}
				if again, againCode := f(c); !sameLists(again, kept) || againCode != code {
					t.Errorf("%s(%v) = %v, %d; before %v, %d", name, c, again, againCode, kept, code)
				}
			})
		}
	}
}
