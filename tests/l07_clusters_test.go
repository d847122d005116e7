package tests

import (
	"math"
	"math/big"
	"math/rand"
	"regexp"
	"slices"
	"strconv"
	"strings"
	"testing"

	"loop.example/g01140/impl"
)

// Limits of chapter 7.
const (
	mostCluster = 24
	mostWeight  = 100000
	mostExcess  = 1000
)

// cluster shortens the literals of clusters.
func cluster(parents, seconds, weights []int64) impl.Cluster {
	return impl.Cluster{Parents: parents, Seconds: seconds, Weights: weights}
}

// clusterWith returns a cluster of points that are given by their proximate points.
func clusterWith(proximates [][]int64, weights []int64) impl.Cluster {
	c := impl.Cluster{Weights: slices.Clone(weights)}
	for _, list := range proximates {
		parent, second := int64(-1), int64(-1)
		if len(list) > 0 {
			parent = list[len(list)-1]
		}
		if len(list) > 1 {
			second = list[0]
		}
		c.Parents, c.Seconds = append(c.Parents, parent), append(c.Seconds, second)
	}
	return c
}

// copyCluster returns a copy of a cluster.
func copyCluster(c impl.Cluster) impl.Cluster {
	return cluster(slices.Clone(c.Parents), slices.Clone(c.Seconds), slices.Clone(c.Weights))
}

// withWeights returns the points of a cluster with other weights.
func withWeights(c impl.Cluster, weights ...int64) impl.Cluster {
	return cluster(slices.Clone(c.Parents), slices.Clone(c.Seconds), slices.Clone(weights))
}

// checkClusterKept calls f on a cluster whose lists have spare capacity, and checks that f changes
// neither of them.
func checkClusterKept(t *testing.T, name string, c impl.Cluster, f func(c impl.Cluster)) {
	t.Helper()
	checkListKept(t, name, c.Parents, func(parents []int64) {
		checkListKept(t, name, c.Seconds, func(seconds []int64) {
			checkListKept(t, name, c.Weights, func(weights []int64) { f(cluster(parents, seconds, weights)) })
		})
	})
}

// proximatesOfCluster returns for each point of a cluster those to which it is proximate.
func proximatesOfCluster(c impl.Cluster) [][]int64 {
	proximates := make([][]int64, len(c.Parents))
	for i := range proximates {
		for _, j := range []int64{c.Seconds[i], c.Parents[i]} {
			if j >= 0 {
				proximates[i] = append(proximates[i], j)
			}
		}
	}
	return proximates
}

// slowIsCluster tells by the definition whether something is a cluster.
func slowIsCluster(c impl.Cluster) bool {
	count := len(c.Weights)
	if count == 0 || count > mostCluster || len(c.Parents) != count || len(c.Seconds) != count || c.Parents[0] != -1 || c.Seconds[0] != -1 {
		return false
	}
	satellites := map[[2]int64]bool{}
	for i, w := range c.Weights {
		if w < -mostWeight || w > mostWeight {
			return false
		}
		if i == 0 {
			continue
		}
		parent, second := c.Parents[i], c.Seconds[i]
		if parent < 0 || parent > int64(i)-1 {
			return false
		}
		if second == -1 {
			continue
		}
		if second < 0 || second != c.Parents[parent] && second != c.Seconds[parent] || satellites[[2]int64{parent, second}] {
			return false
		}
		satellites[[2]int64{parent, second}] = true
	}
	return true
}

// allPointSets returns the proximate points of all clusters of some points.
func allPointSets(count int) [][][]int64 {
	if count == 1 {
		return [][][]int64{{nil}}
	}
	var sets [][][]int64
	for _, before := range allPointSets(count - 1) {
		for parent, list := range before {
			sets = append(sets, append(copyLists(before), []int64{int64(parent)}))
			for _, second := range list {
				satellite := []int64{second, int64(parent)}
				if !slices.ContainsFunc(before, func(other []int64) bool { return slices.Equal(other, satellite) }) {
					sets = append(sets, append(copyLists(before), satellite))
				}
			}
		}
	}
	return sets
}

// randomCluster returns a cluster of some points, of which satellites of ten are satellites where this is
// possible, and straight of ten have the point before them as their parent, with weights up to most.
func randomCluster(r *rand.Rand, count, satellites, straight int, most int64) impl.Cluster {
	proximates := [][]int64{nil}
	for i := 1; i < count; i++ {
		parent := i - 1
		if r.Intn(10) >= straight {
			parent = r.Intn(i)
		}
		point := []int64{int64(parent)}
		if list := proximates[parent]; len(list) > 0 && r.Intn(10) < satellites {
			satellite := []int64{list[r.Intn(len(list))], int64(parent)}
			if !slices.ContainsFunc(proximates, func(other []int64) bool { return slices.Equal(other, satellite) }) {
				point = satellite
			}
		}
		proximates = append(proximates, point)
	}
	weights := make([]int64, count)
	for i := range weights {
		weights[i] = r.Int63n(2*most+1) - most
	}
	return clusterWith(proximates, weights)
}

// rowOfPoints returns the points of a cluster of some points, each behind the one before it: with satellite,
// those from 2 on are proximate to the point that it returns, too.
func rowOfPoints(count int, satellite func(i int) int64) impl.Cluster {
	c := impl.Cluster{Weights: repeated(0, count)}
	for i := range count {
		second := int64(-1)
		if satellite != nil && i >= 2 {
			second = satellite(i)
		}
		c.Parents, c.Seconds = append(c.Parents, int64(i-1)), append(c.Seconds, second)
	}
	return c
}

// twoBefore returns some points, each of which is proximate to both points before it. The weights of their
// simple clusters are the greatest ones.
func twoBefore(count int) impl.Cluster {
	return rowOfPoints(count, func(i int) int64 { return int64(i - 2) })
}

// wideClusters returns clusters of up to MaxCluster points, and weights up to MaxPointWeight.
func wideClusters() []impl.Cluster {
	star := rowOfPoints(mostCluster, nil)
	copy(star.Parents[1:], repeated(0, mostCluster-1))
	var clusters []impl.Cluster
	for _, c := range []impl.Cluster{rowOfPoints(mostCluster, nil), twoBefore(mostCluster), rowOfPoints(mostCluster, func(int) int64 { return 0 }), star, twoBefore(mostCluster - 1), rowOfPoints(1, nil)} {
		count := len(c.Parents)
		for _, w := range []int64{0, 1, -1, mostWeight, -mostWeight} {
			clusters = append(clusters, withWeights(c, repeated(w, count)...))
		}
		clusters = append(clusters, withWeights(c, append(repeated(0, count-1), mostWeight)...), withWeights(c, append([]int64{-mostWeight}, repeated(0, count-1)...)...))
	}
	r := rand.New(rand.NewSource(71))
	for n := range 1200 {
		count := 1 + r.Intn(mostCluster)
		if n%5 == 0 {
			count = mostCluster
		}
		clusters = append(clusters, randomCluster(r, count, n%11, n/11%11, []int64{1, 3, 40, 1000, mostWeight}[n%5]))
	}
	return clusters
}

// someClusters returns all clusters of up to five points, with random weights, clusters of branches with one
// to three pairs, and wide ones.
func someClusters() []impl.Cluster {
	clusters := wideClusters()
	r := rand.New(rand.NewSource(72))
	for count := 1; count <= 5; count++ {
		for _, proximates := range allPointSets(count) {
			for _, most := range []int64{0, 2, 9} {
				weights := make([]int64, count)
				for i := range weights {
					weights[i] = r.Int63n(2*most+1) - most/2
				}
				clusters = append(clusters, clusterWith(proximates, weights))
			}
		}
	}
	for _, terms := range [][]int64{{1}, {2, 3}, {2, 9}, {5, 7}, {8, 13}, {23, 24}, {4, 6, 7}, {6, 9, 10}, {6, 10, 11}, {4, 10, 13}, {12, 18, 20, 21}, {8, 12, 14, 15}} {
		for _, k := range []int{1, 2, 3, 5, 8, 14, 24} {
			multiplicities := slowMultiplicities(terms, k)
			clusters = append(clusters, clusterWith(slowProximates(multiplicities), multiplicities))
		}
	}
	return clusters
}

// clusterFacts are what the functions of a cluster alone return.
type clusterFacts struct {
	proximity, inverse, exceptional [][]int64
	excesses, orders, satellites    []int64
	consistent                      bool
	delta                           int64
	text                            string
}

// countPaths counts the ways from the point i to the point j, each step to a point to which it is proximate.
func countPaths(proximates [][]int64, i, j int64) int64 {
	if i <= j {
		if i == j {
			return 1
		}
		return 0
	}
	var count int64
	for _, k := range proximates[i] {
		count += countPaths(proximates, k, j)
	}
	return count
}

// meetingsByBlowUps returns the intersection matrix by blowing up one point after the other: the curves on
// which a point lies are those of the points to which it is proximate; each of them gets 1 less with itself,
// and 1 with the new curve, and two of them meet once less.
func meetingsByBlowUps(proximates [][]int64) [][]int64 {
	matrix := make([][]int64, len(proximates))
	for i := range matrix {
		matrix[i] = repeated(0, len(proximates))
	}
	for i, list := range proximates {
		matrix[i][i] = -1
		for _, j := range list {
			matrix[i][j]++
			matrix[j][i]++
			for _, k := range list {
				matrix[j][k]--
			}
		}
	}
	return matrix
}

// slowFacts finds what follows from the lists of a cluster.
func slowFacts(c impl.Cluster) clusterFacts {
	proximates := proximatesOfCluster(c)
	facts := clusterFacts{exceptional: meetingsByBlowUps(proximates), orders: slowSums(proximates, c.Weights), consistent: true}
	var parts []string
	for i, list := range proximates {
		proximity, inverse := make([]int64, len(proximates)), make([]int64, len(proximates))
		excess := c.Weights[i]
		for j := range proximates {
			inverse[j] = countPaths(proximates, int64(i), int64(j))
			if slices.Contains(list, int64(j)) {
				proximity[j] = -1
			}
			if slices.Contains(proximates[j], int64(i)) {
				excess -= c.Weights[j]
			}
		}
		proximity[i] = 1
		facts.proximity, facts.inverse = append(facts.proximity, proximity), append(facts.inverse, inverse)
		facts.excesses = append(facts.excesses, excess)
		facts.consistent = facts.consistent && excess >= 0
		facts.delta += (c.Weights[i]*c.Weights[i] - c.Weights[i]) / 2
		part := strconv.Itoa(int(c.Weights[i]))
		if i > 0 {
			part += ":" + strconv.Itoa(int(list[len(list)-1]))
		}
		if len(list) == 2 {
			facts.satellites = append(facts.satellites, int64(i))
			part += "," + strconv.Itoa(int(list[0]))
		}
		parts = append(parts, part)
	}
	facts.text = strings.Join(parts, " ")
	return facts
}

// clusterFunction is a function of a cluster, whose results are put into lists, none for a zero value.
type clusterFunction func(c impl.Cluster) ([][]int64, int64)

// listAsLists puts a list into lists.
func listAsLists(list []int64, code int64) ([][]int64, int64) {
	if len(list) == 0 {
		return nil, code
	}
	return [][]int64{list}, code
}

// numberAsLists puts a number into lists.
func numberAsLists(n, code int64) ([][]int64, int64) {
	if n == 0 {
		return nil, code
	}
	return [][]int64{{n}}, code
}

// boolAsLists puts a bool into lists.
func boolAsLists(ok bool, code int64) ([][]int64, int64) {
	if !ok {
		return nil, code
	}
	return [][]int64{{1}}, code
}

// textAsLists puts a text into lists.
func textAsLists(text string, code int64) ([][]int64, int64) {
	var list []int64
	for _, b := range []byte(text) {
		list = append(list, int64(b))
	}
	return listAsLists(list, code)
}

// clusterAsLists puts a cluster into lists.
func clusterAsLists(c impl.Cluster, code int64) ([][]int64, int64) {
	if len(c.Parents) == 0 && len(c.Seconds) == 0 && len(c.Weights) == 0 {
		return nil, code
	}
	return [][]int64{c.Parents, c.Seconds, c.Weights}, code
}

// ownFunctions returns the functions of a cluster alone.
func ownFunctions() map[string]clusterFunction {
	return map[string]clusterFunction{
		"ProximityMatrix": impl.ProximityMatrix, "InverseProximity": impl.InverseProximity, "ExceptionalMatrix": impl.ExceptionalMatrix,
		"ExcessesOf":     func(c impl.Cluster) ([][]int64, int64) { return listAsLists(impl.ExcessesOf(c)) },
		"ClusterOrders":  func(c impl.Cluster) ([][]int64, int64) { return listAsLists(impl.ClusterOrders(c)) },
		"SatellitesOf":   func(c impl.Cluster) ([][]int64, int64) { return listAsLists(impl.SatellitesOf(c)) },
		"IsConsistent":   func(c impl.Cluster) ([][]int64, int64) { return boolAsLists(impl.IsConsistent(c)) },
		"DeltaOfCluster": func(c impl.Cluster) ([][]int64, int64) { return numberAsLists(impl.DeltaOfCluster(c)) },
		"ClusterText":    func(c impl.Cluster) ([][]int64, int64) { return textAsLists(impl.ClusterText(c)) },
	}
}

// simpleAt returns SimpleCluster at a point as a function of a cluster.
func simpleAt(i int64) clusterFunction {
	return func(c impl.Cluster) ([][]int64, int64) { return clusterAsLists(impl.SimpleCluster(c, i)) }
}

// copiedResult returns a copy of a cluster, in lists, and writes all over the cluster, so that it is seen if it
// shares memory with an argument.
func copiedResult(c impl.Cluster, code int64) ([][]int64, int64) {
	lists, code := clusterAsLists(copyCluster(c), code)
	scribble(c.Parents, c.Seconds, c.Weights)
	return lists, code
}

// withExcesses returns ClusterOfExcesses with some excesses as a function of a cluster.
func withExcesses(t *testing.T, excesses []int64) clusterFunction {
	return func(c impl.Cluster) (lists [][]int64, code int64) {
		checkListKept(t, "ClusterOfExcesses", excesses, func(list []int64) { lists, code = copiedResult(impl.ClusterOfExcesses(c, list)) })
		return lists, code
	}
}

// plus returns AddClusters with another cluster as a function of the first one.
func plus(t *testing.T, d impl.Cluster) clusterFunction {
	return func(c impl.Cluster) (lists [][]int64, code int64) {
		checkClusterKept(t, "AddClusters", d, func(d impl.Cluster) { lists, code = copiedResult(impl.AddClusters(c, d)) })
		return lists, code
	}
}

// times returns MultiplyClusters with another cluster as a function of the first one.
func times(t *testing.T, d impl.Cluster) clusterFunction {
	return func(c impl.Cluster) (lists [][]int64, code int64) {
		checkClusterKept(t, "MultiplyClusters", d, func(d impl.Cluster) { lists, code = numberAsLists(impl.MultiplyClusters(c, d)) })
		return lists, code
	}
}

// checkCluster checks a result of a function of a cluster, that the cluster is kept, and that writing all
// over the result changes nothing of the next one.
func checkCluster(t *testing.T, name string, f clusterFunction, c impl.Cluster, want [][]int64, wantCode int64) {
	t.Helper()
	checkClusterKept(t, name, c, func(c impl.Cluster) {
		for range 2 {
			x, code := f(c)
			if !sameLists(x, want) || code != wantCode {
				t.Errorf("%s(%v) = %v, %d; wanted %v, %d", name, c, x, code, want, wantCode)
			}
			scribble(x...)
		}
	})
}

// checkFacts checks all functions of a cluster alone.
func checkFacts(t *testing.T, c impl.Cluster, facts clusterFacts) {
	t.Helper()
	want := map[string][][]int64{"ProximityMatrix": facts.proximity, "InverseProximity": facts.inverse, "ExceptionalMatrix": facts.exceptional}
	want["ExcessesOf"], _ = listAsLists(facts.excesses, 0)
	want["ClusterOrders"], _ = listAsLists(facts.orders, 0)
	want["SatellitesOf"], _ = listAsLists(facts.satellites, 0)
	want["IsConsistent"], _ = boolAsLists(facts.consistent, 0)
	want["DeltaOfCluster"], _ = numberAsLists(facts.delta, 0)
	want["ClusterText"], _ = textAsLists(facts.text, 0)
	for name, f := range ownFunctions() {
		checkCluster(t, name, f, c, want[name], impl.ErrNone)
	}
	checkClusterKept(t, "IsCluster", c, func(c impl.Cluster) {
		if !impl.IsCluster(c) {
			t.Errorf("IsCluster(%v) is false", c)
		}
	})
	checkParsedCluster(t, facts.text, c)
}

// checkParsedCluster checks that a text is parsed to a cluster, or is a wrong one if that has no points.
func checkParsedCluster(t *testing.T, text string, want impl.Cluster) {
	t.Helper()
	wantLists, wantCode := clusterAsLists(want, impl.ErrNone)
	if len(wantLists) == 0 {
		wantCode = impl.ErrSyntax
	}
	for range 2 {
		lists, code := clusterAsLists(impl.ParseCluster(text))
		if !sameLists(lists, wantLists) || code != wantCode {
			t.Errorf("ParseCluster(%q) = %v, %d; wanted %v, %d", text, lists, code, wantLists, wantCode)
		}
		scribble(lists...)
	}
}

func TestClusterConstants(t *testing.T) {
	if impl.MaxCluster != mostCluster || impl.MaxPointWeight != mostWeight {
		t.Errorf("MaxCluster is %d, MaxPointWeight is %d", impl.MaxCluster, impl.MaxPointWeight)
	}
}

// clusterCase is a cluster with what follows from it.
type clusterCase struct {
	c     impl.Cluster
	facts clusterFacts
}

func clusterCases() []clusterCase {
	return []clusterCase{
		{
			cluster([]int64{-1, 0, 1}, []int64{-1, -1, 0}, []int64{2, 1, 1}),
			clusterFacts{
				[][]int64{{1, 0, 0}, {-1, 1, 0}, {-1, -1, 1}}, [][]int64{{1, 0, 0}, {1, 1, 0}, {2, 1, 1}}, [][]int64{{-3, 0, 1}, {0, -2, 1}, {1, 1, -1}},
				[]int64{0, 0, 1}, []int64{2, 3, 6}, []int64{2}, true, 1, "2 1:0 1:1,0",
			},
		},
		{
			cluster([]int64{-1}, []int64{-1}, []int64{-3}),
			clusterFacts{[][]int64{{1}}, [][]int64{{1}}, [][]int64{{-1}}, []int64{-3}, []int64{-3}, nil, false, 6, "-3"},
		},
		{
			cluster([]int64{-1}, []int64{-1}, []int64{0}),
			clusterFacts{[][]int64{{1}}, [][]int64{{1}}, [][]int64{{-1}}, []int64{0}, []int64{0}, nil, true, 0, "0"},
		},
		{
			cluster([]int64{-1, 0, 0}, []int64{-1, -1, -1}, []int64{1, 1, 1}),
			clusterFacts{
				[][]int64{{1, 0, 0}, {-1, 1, 0}, {-1, 0, 1}}, [][]int64{{1, 0, 0}, {1, 1, 0}, {1, 0, 1}}, [][]int64{{-3, 1, 1}, {1, -1, 0}, {1, 0, -1}},
				[]int64{-1, 1, 1}, []int64{1, 2, 2}, nil, false, 0, "1 1:0 1:0",
			},
		},
		{
			cluster([]int64{-1, 0, 1, 1, 2, 2, 4}, []int64{-1, -1, 0, -1, 0, 1, 2}, []int64{5, 2, 1, -1, 0, 3, 0}),
			clusterFacts{
				[][]int64{{1, 0, 0, 0, 0, 0, 0}, {-1, 1, 0, 0, 0, 0, 0}, {-1, -1, 1, 0, 0, 0, 0}, {0, -1, 0, 1, 0, 0, 0}, {-1, 0, -1, 0, 1, 0, 0}, {0, -1, -1, 0, 0, 1, 0}, {0, 0, -1, 0, -1, 0, 1}},
				[][]int64{{1, 0, 0, 0, 0, 0, 0}, {1, 1, 0, 0, 0, 0, 0}, {2, 1, 1, 0, 0, 0, 0}, {1, 1, 0, 1, 0, 0, 0}, {3, 1, 1, 0, 1, 0, 0}, {3, 2, 1, 0, 0, 1, 0}, {5, 2, 2, 0, 1, 0, 1}},
				[][]int64{{-4, 0, 0, 0, 1, 0, 0}, {0, -4, 0, 1, 0, 1, 0}, {0, 0, -4, 0, 0, 1, 1}, {0, 1, 0, -1, 0, 0, 0}, {1, 0, 0, 0, -2, 0, 1}, {0, 1, 1, 0, 0, -1, 0}, {0, 0, 1, 0, 1, 0, -1}},
				[]int64{2, -1, -2, -1, 0, 3, 0}, []int64{5, 7, 13, 6, 18, 23, 31}, []int64{2, 4, 5, 6}, false, 15, "5 2:0 1:1,0 -1:1 0:2,0 3:2,1 0:4,2",
			},
		},
		{
			cluster([]int64{-1, 0, 1}, []int64{-1, -1, 0}, []int64{mostWeight, -mostWeight, -mostWeight}),
			clusterFacts{
				[][]int64{{1, 0, 0}, {-1, 1, 0}, {-1, -1, 1}}, [][]int64{{1, 0, 0}, {1, 1, 0}, {2, 1, 1}}, [][]int64{{-3, 0, 1}, {0, -2, 1}, {1, 1, -1}},
				[]int64{3 * mostWeight, 0, -mostWeight}, []int64{mostWeight, 0, 0}, []int64{2}, false, 4999950000 + 2*5000050000, "100000 -100000:0 -100000:1,0",
			},
		},
		{
			cluster([]int64{-1, 0}, []int64{-1, -1}, []int64{7, 0}),
			clusterFacts{[][]int64{{1, 0}, {-1, 1}}, [][]int64{{1, 0}, {1, 1}}, [][]int64{{-2, 1}, {1, -1}}, []int64{7, 0}, []int64{7, 7}, nil, true, 21, "7 0:0"},
		},
	}
}

// TestClusterCases checks all functions of a cluster alone, and that those of the test find the same.
func TestClusterCases(t *testing.T) {
	for _, c := range clusterCases() {
		checkFacts(t, c.c, c.facts)
		slow := slowFacts(c.c)
		lists := [][]int64{c.facts.excesses, c.facts.orders, c.facts.satellites}
		if !sameLists(slow.proximity, c.facts.proximity) || !sameLists(slow.inverse, c.facts.inverse) || !sameLists(slow.exceptional, c.facts.exceptional) ||
			!sameLists([][]int64{slow.excesses, slow.orders, slow.satellites}, lists) || slow.consistent != c.facts.consistent || slow.delta != c.facts.delta || slow.text != c.facts.text {
			t.Errorf("%v has %v; wanted %v", c.c, slow, c.facts)
		}
	}
}

// TestClustersAgree checks all functions of a cluster alone against what follows from its lists.
func TestClustersAgree(t *testing.T) {
	consistent, satellites, large := 0, 0, 0
	for _, c := range someClusters() {
		facts := slowFacts(c)
		checkFacts(t, c, facts)
		if facts.consistent {
			consistent++
		}
		if len(facts.satellites) > 1 {
			satellites++
		}
		if len(c.Weights) == mostCluster {
			large++
		}
	}
	if consistent < 100 || satellites < 500 || large < 250 {
		t.Errorf("%d clusters are consistent, %d have satellites, %d have MaxCluster points", consistent, satellites, large)
	}
}

// TestConsistency checks excesses of -1, 0 and 1 at each point.
func TestConsistency(t *testing.T) {
	for _, proximates := range allPointSets(4) {
		for i := range proximates {
			for _, excess := range []int64{-1, 0, 1} {
				weights := repeated(0, len(proximates))
				for j := range weights {
					weights[j] = excess * countPaths(proximates, int64(i), int64(j))
				}
				want, _ := boolAsLists(excess >= 0, 0)
				checkCluster(t, "IsConsistent", ownFunctions()["IsConsistent"], clusterWith(proximates, weights), want, impl.ErrNone)
			}
		}
	}
}

// timesMatrix returns the product of two matrices.
func timesMatrix(p, q [][]int64) [][]int64 {
	product := make([][]int64, len(p))
	for i := range p {
		product[i] = repeated(0, len(q))
		for k, n := range p[i] {
			for j := range q[k] {
				product[i][j] += n * q[k][j]
			}
		}
	}
	return product
}

// turned returns a square matrix with rows and columns exchanged.
func turned(matrix [][]int64) [][]int64 {
	other := copyLists(matrix)
	for i, row := range matrix {
		for j, n := range row {
			other[j][i] = n
		}
	}
	return other
}

// determinant returns the determinant of a matrix, by steps whose divisions have no remainder.
func determinant(matrix [][]int64) *big.Int {
	rows := make([][]*big.Int, len(matrix))
	for i := range rows {
		rows[i] = bigs(matrix[i])
	}
	before := big.NewInt(1)
	for k := range rows {
		other := slices.IndexFunc(rows[k:], func(row []*big.Int) bool { return row[k].Sign() != 0 })
		if other < 0 {
			return new(big.Int)
		}
		if other > 0 {
			rows[k], rows[k+other] = rows[k+other], rows[k]
			for _, n := range rows[k] {
				n.Neg(n)
			}
		}
		for _, row := range rows[k+1:] {
			first := new(big.Int).Set(row[k])
			for j := range row {
				n := new(big.Int).Mul(row[j], rows[k][k])
				row[j] = n.Quo(n.Sub(n, new(big.Int).Mul(first, rows[k][j])), before)
			}
		}
		before = rows[k][k]
	}
	return before
}

// TestMatrices checks that the product of the proximity matrix and its inverse is the unit matrix, in both
// orders, that the intersection matrix is the opposite of that of the proximity matrix, turned, and this, that
// it leads orders to the opposites of excesses, and that its determinant is 1 or -1.
func TestMatrices(t *testing.T) {
	for _, c := range someClusters() {
		proximity, _ := impl.ProximityMatrix(c)
		inverse, _ := impl.InverseProximity(c)
		exceptional, code := impl.ExceptionalMatrix(c)
		count := len(c.Weights)
		if len(proximity) != count || len(inverse) != count || len(exceptional) != count || code != impl.ErrNone {
			t.Fatalf("%v has the matrices %v, %v, %v", c, proximity, inverse, exceptional)
		}
		unit, opposite := timesMatrix(proximity, inverse), timesMatrix(turned(proximity), proximity)
		for i := range unit {
			for j := range unit[i] {
				if want := i == j; unit[i][j] != 1 && want || unit[i][j] != 0 && !want {
					t.Errorf("the product of the matrices of %v is %v", c, unit)
				}
				opposite[i][j] *= -1
			}
		}
		if !sameLists(timesMatrix(inverse, proximity), unit) || !sameLists(opposite, exceptional) || !sameLists(exceptional, turned(exceptional)) {
			t.Errorf("%v has the matrices %v, %v, %v", c, proximity, inverse, exceptional)
		}
		orders, _ := impl.ClusterOrders(c)
		excesses, _ := impl.ExcessesOf(c)
		for i, row := range exceptional {
			var sum int64
			for j, n := range row {
				sum += n * orders[j]
			}
			if sum != -excesses[i] {
				t.Errorf("the matrix of %v leads orders to %d at %d, where the excess is %d", c, sum, i, excesses[i])
			}
		}
		if d, want := determinant(exceptional), big.NewInt([]int64{1, -1}[count%2]); d.Cmp(want) != 0 {
			t.Errorf("the determinant of the matrix of %v is %v", c, d)
		}
	}
}

// TestSumOfSimpleClusters checks the first part of promise 7: a cluster is the sum of its excesses times the
// simple clusters, and that of these excesses.
func TestSumOfSimpleClusters(t *testing.T) {
	limited := 0
	for _, c := range someClusters() {
		excesses, code := impl.ExcessesOf(c)
		if len(excesses) != len(c.Weights) || code != impl.ErrNone {
			t.Fatalf("ExcessesOf(%v) = %v, %d", c, excesses, code)
		}
		weights := repeated(0, len(c.Weights))
		for i, excess := range excesses {
			simple, code := impl.SimpleCluster(c, int64(i))
			if len(simple.Weights) != len(weights) || code != impl.ErrNone {
				t.Fatalf("SimpleCluster(%v, %d) = %v, %d", c, i, simple, code)
			}
			for j, w := range simple.Weights {
				weights[j] += excess * w
			}
		}
		if !slices.Equal(weights, c.Weights) {
			t.Errorf("excesses times simple clusters of %v make %v", c, weights)
		}
		if slices.Max(excesses) <= mostExcess && slices.Min(excesses) >= -mostExcess {
			checkCluster(t, "ClusterOfExcesses", withExcesses(t, excesses), c, [][]int64{c.Parents, c.Seconds, c.Weights}, impl.ErrNone)
			limited++
		}
	}
	if limited < 800 {
		t.Errorf("only %d clusters have excesses in their range", limited)
	}
}

// TestAddingSimpleClusters checks the first part of promise 7 by adding simple clusters, or their opposites, one
// by one.
func TestAddingSimpleClusters(t *testing.T) {
	added := 0
	for _, c := range someClusters() {
		excesses, _ := impl.ExcessesOf(c)
		if len(excesses) > 5 || slices.Max(excesses) > 30 || slices.Min(excesses) < -30 {
			continue
		}
		sum := withWeights(c, repeated(0, len(excesses))...)
		for i, excess := range excesses {
			simple, _ := impl.SimpleCluster(c, int64(i))
			if excess < 0 {
				for j := range simple.Weights {
					simple.Weights[j] *= -1
				}
			}
			for range max(excess, -excess) {
				sum, _ = impl.AddClusters(sum, simple)
			}
		}
		if !slices.Equal(sum.Parents, c.Parents) || !slices.Equal(sum.Seconds, c.Seconds) || !slices.Equal(sum.Weights, c.Weights) {
			t.Errorf("simple clusters of %v make the sum %v", c, sum)
		}
		added++
	}
	if added < 300 {
		t.Errorf("only %d clusters are added", added)
	}
}

// TestProductsAreOrders checks the second part of promise 7: the product of a cluster and a simple one is the
// order of its point. The excesses of simple clusters are 1 and 0.
func TestProductsAreOrders(t *testing.T) {
	for _, c := range someClusters() {
		orders, code := impl.ClusterOrders(c)
		if len(orders) != len(c.Weights) || code != impl.ErrNone {
			t.Fatalf("ClusterOrders(%v) = %v, %d", c, orders, code)
		}
		inverse, _ := impl.InverseProximity(c)
		for i, order := range orders {
			want, _ := numberAsLists(order, 0)
			simple := withWeights(c, inverse[i]...)
			checkCluster(t, "SimpleCluster", simpleAt(int64(i)), c, [][]int64{c.Parents, c.Seconds, inverse[i]}, impl.ErrNone)
			checkCluster(t, "MultiplyClusters", times(t, simple), c, want, impl.ErrNone)
			checkCluster(t, "MultiplyClusters", times(t, c), simple, want, impl.ErrNone)
			excesses := repeated(0, len(orders))
			excesses[i] = 1
			checkCluster(t, "ExcessesOf", ownFunctions()["ExcessesOf"], simple, [][]int64{excesses}, impl.ErrNone)
			checkCluster(t, "ClusterOfExcesses", withExcesses(t, excesses), c, [][]int64{c.Parents, c.Seconds, inverse[i]}, impl.ErrNone)
		}
	}
}

// wrongNumbers returns numbers that can stand nowhere in the parents and seconds of a cluster.
func wrongNumbers() []int64 {
	return []int64{-2, -3, -mostCluster, mostCluster, 1 << 32, 1<<32 - 1, 1<<32 + 1, -1 << 32, math.MaxInt64, math.MaxInt64 - 1, math.MinInt64, math.MinInt64 + 1}
}

// wrongWeights returns numbers beyond the range of weights.
func wrongWeights() []int64 {
	return []int64{mostWeight + 1, -mostWeight - 1, 2 * mostWeight, 1 << 32, -1 << 32, 1<<32 + 1, math.MaxInt64, math.MaxInt64 - 1, math.MinInt64, math.MinInt64 + 1}
}

// withParent returns the cluster with another parent of the point i.
func withParent(c impl.Cluster, i int, parent int64) impl.Cluster {
	d := copyCluster(c)
	d.Parents[i] = parent
	return d
}

// withSecond returns the cluster with another second of the point i.
func withSecond(c impl.Cluster, i int, second int64) impl.Cluster {
	d := copyCluster(c)
	d.Seconds[i] = second
	return d
}

// wrongLists returns what is no cluster because of the lengths of its lists.
func wrongLists() []impl.Cluster {
	long := twoBefore(mostCluster + 1)
	free := withWeights(rowOfPoints(mostCluster+1, nil), repeated(1, mostCluster+1)...)
	c := cluster([]int64{-1, 0, 1}, []int64{-1, -1, 0}, []int64{2, 1, 1})
	list := []impl.Cluster{
		{}, cluster([]int64{}, []int64{}, []int64{}), long, free, rowOfPoints(5000, nil), cluster(nil, nil, []int64{1}), cluster(nil, []int64{-1}, nil), cluster([]int64{-1}, nil, nil),
		cluster(nil, []int64{-1}, []int64{1}), cluster([]int64{-1}, nil, []int64{1}), cluster([]int64{-1}, []int64{-1}, nil),
		cluster(long.Parents, long.Seconds[:mostCluster], long.Weights[:mostCluster]), cluster(long.Parents[:mostCluster], long.Seconds, long.Weights[:mostCluster]), cluster(long.Parents[:mostCluster], long.Seconds[:mostCluster], long.Weights),
	}
	for n := range 3 {
		list = append(list, cluster(c.Parents[:n], c.Seconds, c.Weights), cluster(c.Parents, c.Seconds[:n], c.Weights), cluster(c.Parents, c.Seconds, c.Weights[:n]))
	}
	return append(list, cluster(append(slices.Clone(c.Parents), 2), c.Seconds, c.Weights), cluster(c.Parents, append(slices.Clone(c.Seconds), -1), c.Weights), cluster(c.Parents, c.Seconds, append(slices.Clone(c.Weights), 1)))
}

// invalidClusters returns what is no cluster: by the lengths of lists, by wrong numbers at all places of some
// clusters, and by points that cannot be there.
func invalidClusters() []impl.Cluster {
	list := wrongLists()
	for _, c := range []impl.Cluster{rowOfPoints(1, nil), rowOfPoints(2, nil), twoBefore(3), clusterCases()[4].c, twoBefore(mostCluster)} {
		for i := range c.Parents {
			for _, n := range wrongNumbers() {
				list = append(list, withParent(c, i, n), withSecond(c, i, n), withSecond(withParent(c, i, n), i, n))
			}
			for _, w := range wrongWeights() {
				d := copyCluster(c)
				d.Weights[i] = w
				list = append(list, d)
			}
		}
	}
	free, satellite := withWeights(rowOfPoints(4, nil), 4, 3, 2, 1), withWeights(twoBefore(4), 4, 3, 2, 1)
	for i := range 4 {
		// A parent of i and of i + 1 at the point i, and none behind the first one.
		list = append(list, withParent(free, i, int64(i)), withParent(free, i, int64(i+1)), withParent(satellite, i, int64(i)), withParent(satellite, i, int64(i+1)))
		if i > 0 {
			list = append(list, withParent(free, i, -1), withSecond(withParent(satellite, i, -1), i, -1))
		}
		// A second that is the point itself or one behind it.
		list = append(list, withSecond(free, i, int64(i)), withSecond(free, i, int64(i+1)), withSecond(satellite, i, int64(i)), withSecond(satellite, i, int64(i+1)))
	}
	return append(list,
		// A first parent that is not -1, and a second at the first point or at the one behind it.
		withParent(free, 0, 0), withParent(free, 0, 1), withSecond(free, 0, 0), withSecond(withParent(free, 0, 0), 0, 0), cluster([]int64{0}, []int64{-1}, []int64{1}), cluster([]int64{-1}, []int64{0}, []int64{1}), cluster([]int64{-2}, []int64{-1}, []int64{1}),
		withSecond(free, 1, 0), withSecond(free, 1, 1),
		// A second that is the parent, or neither the parent nor the second of the parent.
		withSecond(free, 2, 1), withSecond(free, 3, 0), withSecond(free, 3, 2), withSecond(withParent(satellite, 3, 1), 3, 2), withSecond(withParent(satellite, 3, 0), 3, 1), withSecond(withParent(free, 2, 0), 2, 1), withSecond(withParent(free, 3, 0), 3, 1),
		cluster([]int64{-1, 0, 0, 2}, []int64{-1, -1, -1, 1}, []int64{1, 1, 1, 1}), cluster([]int64{-1, 0, 1, 2, 3}, []int64{-1, -1, 0, 1, 0}, []int64{5, 4, 3, 2, 1}), cluster([]int64{-1, 0, 1, 1}, []int64{-1, -1, -1, 2}, []int64{1, 1, 1, 1}),
		// Two satellites with the same parent and the same second, side by side or not.
		cluster([]int64{-1, 0, 1, 1}, []int64{-1, -1, 0, 0}, []int64{4, 1, 1, 1}), cluster([]int64{-1, 0, 1, 0, 1}, []int64{-1, -1, 0, -1, 0}, []int64{4, 1, 1, 1, 1}), cluster([]int64{-1, 0, 1, 2, 2, 2}, []int64{-1, -1, 0, 0, 1, 1}, []int64{4, 1, 1, 1, 1, 1}),
		cluster([]int64{-1, 0, 1, 2, 2, 2}, []int64{-1, -1, 0, 0, 1, 0}, []int64{4, 1, 1, 1, 1, 1}), cluster([]int64{-1, 0, 1, 1}, []int64{-1, -1, 0, 0}, []int64{4, 1, 0, 1}),
	)
}

func TestIsCluster(t *testing.T) {
	for _, c := range append(someClusters(),
		// Satellites with the same parent, or with the same second, and free points with the same parent.
		cluster([]int64{-1, 0, 1, 2, 2}, []int64{-1, -1, 0, 0, 1}, repeated(1, 5)), cluster([]int64{-1, 0, 1, 0, 3}, []int64{-1, -1, 0, -1, 0}, repeated(1, 5)), cluster([]int64{-1, 0, 0, 0, 0}, repeated(-1, 5), repeated(1, 5)),
		cluster([]int64{-1, 0, 1, 1, 1}, []int64{-1, -1, 0, -1, -1}, repeated(0, 5)), cluster([]int64{-1}, []int64{-1}, []int64{mostWeight}), cluster([]int64{-1}, []int64{-1}, []int64{-mostWeight}),
	) {
		checkClusterKept(t, "IsCluster", c, func(c impl.Cluster) {
			if !slowIsCluster(c) || !impl.IsCluster(c) {
				t.Errorf("IsCluster(%v) is false", c)
			}
		})
	}
	for _, c := range invalidClusters() {
		checkClusterKept(t, "IsCluster", c, func(c impl.Cluster) {
			if slowIsCluster(c) || impl.IsCluster(c) {
				t.Errorf("IsCluster(%v) is true", c)
			}
		})
	}
}

// TestIsClusterOfShortLists checks all short lists of small numbers, and weights at all places.
func TestIsClusterOfShortLists(t *testing.T) {
	counts := map[int]int{}
	check := func(parents, seconds []int64) {
		c := cluster(parents, seconds, repeated(1, len(parents)))
		ok := slowIsCluster(c)
		if impl.IsCluster(c) != ok {
			t.Errorf("IsCluster(%v) is %v", c, !ok)
		}
		if ok {
			counts[len(parents)]++
		}
	}
	allLists(3, -2, 3, func(parents []int64) {
		allLists(3, -2, 3, func(seconds []int64) {
			if len(parents) == len(seconds) {
				check(parents, seconds)
			}
		})
	})
	allLists(4, -1, 3, func(parents []int64) {
		if len(parents) < 4 || parents[0] > 0 {
			return
		}
		allLists(4, -1, 3, func(seconds []int64) {
			if len(seconds) == 4 && seconds[0] <= 0 {
				check(parents, seconds)
			}
		})
	})
	// There are 2 k - 1 choices for a point behind k others.
	if counts[1] != 1 || counts[2] != 1 || counts[3] != 3 || counts[4] != 15 || len(allPointSets(5)) != 105 {
		t.Errorf("numbers of clusters are %v", counts)
	}
	for _, proximates := range allPointSets(6) {
		if c := clusterWith(proximates, repeated(1, 6)); !impl.IsCluster(c) {
			t.Errorf("IsCluster(%v) is false", c)
		}
	}
}

// TestSpoiltClusters checks clusters in which one or two numbers are replaced.
func TestSpoiltClusters(t *testing.T) {
	r := rand.New(rand.NewSource(73))
	results := map[bool]int{}
	for range 20000 {
		c := randomCluster(r, 1+r.Intn(mostCluster), r.Intn(11), r.Intn(11), mostWeight)
		for range 1 + r.Intn(2) {
			list := [][]int64{c.Parents, c.Seconds, c.Parents, c.Seconds, c.Weights}[r.Intn(5)]
			list[r.Intn(len(list))] = r.Int63n(mostCluster+2) - 2
		}
		ok := slowIsCluster(c)
		results[ok]++
		if impl.IsCluster(c) != ok {
			t.Errorf("IsCluster(%v) is %v", c, !ok)
		}
		if orders, code := impl.ClusterOrders(c); (code == impl.ErrNone) != ok || (code == impl.ErrInvalid) == ok || (len(orders) > 0) != ok {
			t.Errorf("ClusterOrders(%v) = %v, %d", c, orders, code)
		}
	}
	if results[true] < 3000 || results[false] < 3000 {
		t.Errorf("there are so many clusters: %v", results)
	}
}

// TestInvalidClusters checks that all functions refuse what is no cluster, also with numbers and lists that are
// out of their ranges, and with another cluster that is right or none.
func TestInvalidClusters(t *testing.T) {
	good := cluster([]int64{-1, 0, 1}, []int64{-1, -1, 0}, []int64{2, 1, 1})
	for _, c := range invalidClusters() {
		for name, f := range ownFunctions() {
			checkCluster(t, name, f, c, nil, impl.ErrInvalid)
		}
		for _, i := range []int64{0, 1, 2, -1, int64(len(c.Parents)), mostCluster, math.MaxInt64, math.MinInt64} {
			checkCluster(t, "SimpleCluster", simpleAt(i), c, nil, impl.ErrInvalid)
		}
		for _, excesses := range [][]int64{nil, {0}, repeated(0, len(c.Parents)), repeated(1, 3), repeated(mostExcess+1, len(c.Parents)), repeated(mostExcess, len(c.Parents)), repeated(math.MinInt64, len(c.Parents)+1)} {
			checkCluster(t, "ClusterOfExcesses", withExcesses(t, excesses), c, nil, impl.ErrInvalid)
		}
		for _, d := range []impl.Cluster{good, c, {}, withWeights(good, mostWeight, mostWeight, mostWeight), rowOfPoints(4, nil), rowOfPoints(1, nil), twoBefore(mostCluster + 1), withWeights(good, mostWeight+1, 0, 0)} {
			checkCluster(t, "AddClusters", plus(t, d), c, nil, impl.ErrInvalid)
			checkCluster(t, "MultiplyClusters", times(t, d), c, nil, impl.ErrInvalid)
			checkCluster(t, "AddClusters", plus(t, c), d, nil, impl.ErrInvalid)
			checkCluster(t, "MultiplyClusters", times(t, c), d, nil, impl.ErrInvalid)
		}
	}
}

// TestSimpleClusters checks numbers of points that do not exist, those next to them, and the greatest weight.
func TestSimpleClusters(t *testing.T) {
	for _, c := range []impl.Cluster{rowOfPoints(1, nil), rowOfPoints(2, nil), twoBefore(3), clusterCases()[4].c, twoBefore(mostCluster), withWeights(twoBefore(2), mostWeight, -mostWeight)} {
		count := int64(len(c.Parents))
		for _, i := range []int64{-1, -2, -count, count, count + 1, 1 << 32, 1<<32 + count - 1, -1 << 32, math.MaxInt64, math.MinInt64, math.MinInt64 + 1} {
			checkCluster(t, "SimpleCluster", simpleAt(i), c, nil, impl.ErrRange)
		}
		for _, i := range []int64{0, count - 1} {
			weights := repeated(0, int(count))
			for j := range weights {
				weights[j] = countPaths(proximatesOfCluster(c), i, int64(j))
			}
			checkCluster(t, "SimpleCluster", simpleAt(i), c, [][]int64{c.Parents, c.Seconds, weights}, impl.ErrNone)
		}
	}
	if d, code := impl.SimpleCluster(twoBefore(mostCluster), mostCluster-1); len(d.Weights) != mostCluster || d.Weights[0] != 46368 || d.Weights[1] != 28657 || d.Weights[22] != 1 || code != impl.ErrNone {
		t.Errorf("the greatest simple cluster is %v, %d", d, code)
	}
}

func TestClusterOfExcesses(t *testing.T) {
	one, three, row, most := rowOfPoints(1, nil), twoBefore(3), rowOfPoints(3, nil), twoBefore(mostCluster)
	for _, c := range []struct {
		c        impl.Cluster
		excesses []int64
		weights  []int64
		code     int64
	}{
		{three, []int64{1, 0, 1}, []int64{3, 1, 1}, 0}, {three, []int64{0, 0, 0}, []int64{0, 0, 0}, 0}, {three, []int64{-1, 2, -3}, []int64{-5, -1, -3}, 0}, {row, []int64{1, 10, 100}, []int64{111, 110, 100}, 0},
		{one, []int64{5}, []int64{5}, 0}, {most, repeated(0, 24), repeated(0, 24), 0}, {clusterCases()[4].c, []int64{2, -1, -2, -1, 0, 3, 0}, []int64{5, 2, 1, -1, 0, 3, 0}, 0},
		// Lists of other lengths, one fewer and one more among them.
		{three, nil, nil, impl.ErrRange}, {three, []int64{}, nil, impl.ErrRange}, {three, []int64{1, 1}, nil, impl.ErrRange}, {three, []int64{1, 1, 1, 1}, nil, impl.ErrRange}, {three, repeated(0, 24), nil, impl.ErrRange},
		{three, []int64{1, 1, 1, 0}, nil, impl.ErrRange}, {most, repeated(0, 23), nil, impl.ErrRange}, {most, repeated(0, 25), nil, impl.ErrRange}, {one, nil, nil, impl.ErrRange}, {one, []int64{5, 0}, nil, impl.ErrRange},
		// Excesses at the ends of their range, and beyond it.
		{row, []int64{1000, 1000, 1000}, []int64{3000, 2000, 1000}, 0}, {row, []int64{-1000, -1000, -1000}, []int64{-3000, -2000, -1000}, 0}, {one, []int64{1000}, []int64{1000}, 0}, {one, []int64{-1000}, []int64{-1000}, 0},
		{one, []int64{1001}, nil, impl.ErrRange}, {one, []int64{-1001}, nil, impl.ErrRange}, {row, []int64{1001, 0, 0}, nil, impl.ErrRange}, {row, []int64{-1001, 0, 0}, nil, impl.ErrRange}, {row, []int64{0, 1001, 0}, nil, impl.ErrRange},
		{row, []int64{0, 0, 1001}, nil, impl.ErrRange}, {row, []int64{0, 0, -1001}, nil, impl.ErrRange}, {row, []int64{math.MinInt64, 0, 0}, nil, impl.ErrRange}, {row, []int64{0, math.MaxInt64, 0}, nil, impl.ErrRange},
		{row, []int64{0, 1, math.MinInt64 + 1}, nil, impl.ErrRange}, {row, []int64{1 << 32, 0, 0}, nil, impl.ErrRange}, {row, []int64{1001, -1001, 0}, nil, impl.ErrRange}, {row, []int64{math.MinInt64, math.MinInt64, 1}, nil, impl.ErrRange},
		// Weights beyond their range, alone and with excesses or lengths that are out of theirs.
		{most, repeated(1000, 24), nil, impl.ErrLimit}, {most, repeated(-1000, 24), nil, impl.ErrLimit}, {most, append(repeated(0, 23), 3), nil, impl.ErrLimit}, {most, append(repeated(0, 23), -3), nil, impl.ErrLimit},
		{most, append(repeated(1000, 23), 1001), nil, impl.ErrRange}, {most, append([]int64{-1001}, repeated(1000, 23)...), nil, impl.ErrRange}, {most, repeated(1000, 25), nil, impl.ErrRange}, {most, repeated(1000, 23), nil, impl.ErrRange},
		{most, append(repeated(0, 23), 2), []int64{92736, 57314, 35422, 21892, 13530, 8362, 5168, 3194, 1974, 1220, 754, 466, 288, 178, 110, 68, 42, 26, 16, 10, 6, 4, 2, 2}, 0},
	} {
		// Weights that the given cluster has do not count.
		for _, w := range []int64{0, mostWeight, -7} {
			given := withWeights(c.c, repeated(w, len(c.c.Parents))...)
			var want [][]int64
			if c.code == impl.ErrNone {
				want = [][]int64{c.c.Parents, c.c.Seconds, c.weights}
			}
			checkCluster(t, "ClusterOfExcesses", withExcesses(t, c.excesses), given, want, c.code)
		}
	}
}

// weightsByPaths returns the weights that some excesses make, and whether they are in their range.
func weightsByPaths(proximates [][]int64, excesses []int64) ([]int64, bool) {
	weights := repeated(0, len(proximates))
	for i, excess := range excesses {
		for j := range weights {
			weights[j] += excess * countPaths(proximates, int64(i), int64(j))
		}
	}
	return weights, slices.Max(weights) <= mostWeight && slices.Min(weights) >= -mostWeight
}

// TestExcessLimits checks excesses that lead to weights at the ends of their range and just beyond them, at the
// first point and at others.
func TestExcessLimits(t *testing.T) {
	ends := map[int64]int{}
	check := func(c impl.Cluster, excesses []int64) {
		t.Helper()
		weights, ok := weightsByPaths(proximatesOfCluster(c), excesses)
		for _, w := range weights {
			ends[w]++
		}
		want, code := [][]int64(nil), int64(impl.ErrLimit)
		if ok {
			want, code = [][]int64{c.Parents, c.Seconds, weights}, impl.ErrNone
		}
		checkCluster(t, "ClusterOfExcesses", withExcesses(t, excesses), c, want, code)
	}
	for _, sign := range []int64{1, -1} {
		for last := int64(-1); last <= 1; last++ {
			// The first weight is 89, 8 and 3 times the excesses of the points 10, 5 and 3, and one more or less.
			check(twoBefore(11), []int64{sign * last, 0, 0, sign * 1000, 0, sign * 1000, 0, 0, 0, 0, sign * 1000})
			// The weight of the point 1 is beyond its range where that of the point 0 is not.
			behind := append([]int64{-1}, twoBefore(11).Parents...)
			seconds := append([]int64{-1}, twoBefore(11).Seconds...)
			for i := range seconds[1:] {
				behind[i+1]++
				if seconds[i+1] >= 0 {
					seconds[i+1]++
				}
			}
			check(cluster(behind, seconds, repeated(0, 12)), []int64{-sign * 3, sign * last, 0, 0, sign * 1000, 0, sign * 1000, 0, 0, 0, 0, sign * 1000})
		}
	}
	if ends[mostWeight] < 2 || ends[-mostWeight] < 2 || ends[mostWeight+1] < 2 || ends[-mostWeight-1] < 2 || ends[mostWeight-1] < 2 {
		t.Errorf("weights at the ends: %v", ends)
	}
	r := rand.New(rand.NewSource(74))
	for n := range 3000 {
		c := randomCluster(r, 1+r.Intn(mostCluster), 10-n%4, 10-n/4%3, 5)
		excesses := make([]int64, len(c.Parents))
		for i := range excesses {
			excesses[i] = r.Int63n(2*mostExcess+1) - mostExcess
		}
		check(c, excesses)
	}
}

// TestAlikeClusters checks sums and products of all clusters of up to four points with each other.
func TestAlikeClusters(t *testing.T) {
	var clusters []impl.Cluster
	for count := 1; count <= 4; count++ {
		for _, proximates := range allPointSets(count) {
			clusters = append(clusters, clusterWith(proximates, []int64{5, -3, 7, 2}[:count]))
		}
	}
	for _, c := range clusters {
		for _, other := range clusters {
			d := withWeights(other, []int64{4, 1, -6, 10}[:len(other.Weights)]...)
			if !slices.Equal(c.Parents, d.Parents) || !slices.Equal(c.Seconds, d.Seconds) {
				checkCluster(t, "AddClusters", plus(t, d), c, nil, impl.ErrRange)
				checkCluster(t, "MultiplyClusters", times(t, d), c, nil, impl.ErrRange)
				continue
			}
			count := len(c.Weights)
			checkCluster(t, "AddClusters", plus(t, d), c, [][]int64{c.Parents, c.Seconds, []int64{9, -2, 1, 12}[:count]}, impl.ErrNone)
			checkCluster(t, "MultiplyClusters", times(t, d), c, [][]int64{{[]int64{20, 17, -25, -5}[count-1]}}, impl.ErrNone)
		}
	}
}

// TestClustersNotAlike checks clusters of the same length that are not alike, and that this comes before weights
// beyond their range.
func TestClustersNotAlike(t *testing.T) {
	full := func(c impl.Cluster, w int64) impl.Cluster { return withWeights(c, repeated(w, len(c.Parents))...) }
	row, satellites, cut := rowOfPoints(mostCluster, nil), twoBefore(mostCluster), twoBefore(mostCluster-1)
	for _, pair := range [][2]impl.Cluster{
		{row, satellites}, {satellites, cut}, {row, withParent(row, mostCluster-1, 0)}, {satellites, withSecond(satellites, mostCluster-1, -1)}, {row, rowOfPoints(mostCluster-1, nil)}, {rowOfPoints(1, nil), rowOfPoints(2, nil)},
		{twoBefore(4), withSecond(twoBefore(4), 3, 0)}, {twoBefore(4), rowOfPoints(4, func(int) int64 { return 0 })}, {withSecond(withParent(row, 2, 0), 2, -1), row}, {cluster([]int64{-1, 0, 0, 1}, repeated(-1, 4), repeated(0, 4)), cluster([]int64{-1, 0, 0, 2}, repeated(-1, 4), repeated(0, 4))},
	} {
		for _, w := range []int64{0, 1, mostWeight, -mostWeight} {
			for _, v := range []int64{1, mostWeight, -mostWeight} {
				c, d := full(pair[0], w), full(pair[1], v)
				checkCluster(t, "AddClusters", plus(t, d), c, nil, impl.ErrRange)
				checkCluster(t, "AddClusters", plus(t, c), d, nil, impl.ErrRange)
				checkCluster(t, "MultiplyClusters", times(t, d), c, nil, impl.ErrRange)
				checkCluster(t, "MultiplyClusters", times(t, c), d, nil, impl.ErrRange)
			}
		}
	}
}

// TestAddClusters checks sums with a weight at the ends of its range and just beyond them, at all places.
func TestAddClusters(t *testing.T) {
	for _, c := range []impl.Cluster{rowOfPoints(1, nil), twoBefore(3), clusterCases()[4].c, twoBefore(mostCluster)} {
		for i := range c.Parents {
			for _, weights := range [][2]int64{
				{60000, 40000}, {60000, 40001}, {-60000, -40000}, {-60000, -40001}, {mostWeight, 0}, {mostWeight, 1}, {mostWeight, -1}, {-mostWeight, 0}, {-mostWeight, -1}, {-mostWeight, 1}, {mostWeight, mostWeight}, {-mostWeight, -mostWeight}, {mostWeight, -mostWeight},
				{99999, 1}, {99999, 2}, {50000, 50000}, {50001, 50000}, {0, 0}, {3, -3}, {-7, 5},
			} {
				first, second := withWeights(c, repeated(2, len(c.Parents))...), withWeights(c, repeated(-5, len(c.Parents))...)
				first.Weights[i], second.Weights[i] = weights[0], weights[1]
				sum := repeated(-3, len(c.Parents))
				sum[i] = weights[0] + weights[1]
				want, code := [][]int64{c.Parents, c.Seconds, sum}, int64(impl.ErrNone)
				if sum[i] > mostWeight || sum[i] < -mostWeight {
					want, code = nil, impl.ErrLimit
				}
				checkCluster(t, "AddClusters", plus(t, second), first, want, code)
				checkCluster(t, "AddClusters", plus(t, first), second, want, code)
			}
		}
	}
}

// TestSumsOfClusters checks sums, products, and that excesses and orders add up, for random clusters.
func TestSumsOfClusters(t *testing.T) {
	r := rand.New(rand.NewSource(75))
	codes := map[int64]int{}
	for n := range 1500 {
		c := randomCluster(r, 1+r.Intn(mostCluster), n%11, n/11%11, []int64{4, 50000, 90000, 100}[n%4])
		d := randomCluster(r, len(c.Parents), 0, 0, []int64{4, 50000, 90000, 100}[n%4])
		d.Parents, d.Seconds = slices.Clone(c.Parents), slices.Clone(c.Seconds)
		weights, product, ok := make([]int64, len(c.Parents)), int64(0), true
		for i := range weights {
			weights[i] = c.Weights[i] + d.Weights[i]
			product += c.Weights[i] * d.Weights[i]
			ok = ok && weights[i] <= mostWeight && weights[i] >= -mostWeight
		}
		want, code := [][]int64{c.Parents, c.Seconds, weights}, int64(impl.ErrNone)
		if !ok {
			want, code = nil, impl.ErrLimit
		}
		codes[code]++
		checkCluster(t, "AddClusters", plus(t, d), c, want, code)
		lists, _ := numberAsLists(product, 0)
		checkCluster(t, "MultiplyClusters", times(t, d), c, lists, impl.ErrNone)
		checkCluster(t, "MultiplyClusters", times(t, c), d, lists, impl.ErrNone)
		for _, f := range []func(c impl.Cluster) ([]int64, int64){impl.ExcessesOf, impl.ClusterOrders} {
			x, _ := f(c)
			y, _ := f(d)
			z, sumCode := f(withWeights(c, weights...))
			for i := range z {
				if z[i] != x[i]+y[i] {
					t.Errorf("%v and %v have %v and %v, but their sum %v", c, d, x, y, z)
				}
			}
			if (sumCode == impl.ErrNone) != ok {
				t.Errorf("the sum of %v and %v has the code %d", c, d, sumCode)
			}
		}
	}
	if codes[impl.ErrNone] < 500 || codes[impl.ErrLimit] < 100 {
		t.Errorf("codes are %v", codes)
	}
}

// TestGreatestNumbers checks the greatest orders, products and delta invariants.
func TestGreatestNumbers(t *testing.T) {
	most := withWeights(twoBefore(mostCluster), repeated(mostWeight, mostCluster)...)
	least := withWeights(most, repeated(-mostWeight, mostCluster)...)
	checkCluster(t, "MultiplyClusters", times(t, most), most, [][]int64{{240000000000}}, impl.ErrNone)
	checkCluster(t, "MultiplyClusters", times(t, least), most, [][]int64{{-240000000000}}, impl.ErrNone)
	checkCluster(t, "MultiplyClusters", times(t, least), least, [][]int64{{240000000000}}, impl.ErrNone)
	checkCluster(t, "DeltaOfCluster", ownFunctions()["DeltaOfCluster"], most, [][]int64{{119998800000}}, impl.ErrNone)
	checkCluster(t, "DeltaOfCluster", ownFunctions()["DeltaOfCluster"], least, [][]int64{{120001200000}}, impl.ErrNone)
	if orders, code := impl.ClusterOrders(most); len(orders) != mostCluster || orders[0] != 100000 || orders[1] != 200000 || orders[2] != 400000 || orders[23] != 12139200000 || code != impl.ErrNone {
		t.Errorf("ClusterOrders(%v) = %v, %d", most, orders, code)
	}
}

// TestDeltas checks delta invariants of single weights.
func TestDeltas(t *testing.T) {
	for _, c := range [][2]int64{{0, 0}, {1, 0}, {2, 1}, {3, 3}, {4, 6}, {5, 10}, {-1, 1}, {-2, 3}, {-3, 6}, {mostWeight, 4999950000}, {-mostWeight, 5000050000}, {99999, 4999850001}} {
		want, _ := numberAsLists(c[1], 0)
		for _, point := range []impl.Cluster{rowOfPoints(1, nil), rowOfPoints(2, nil), twoBefore(mostCluster)} {
			point.Weights[len(point.Weights)-1] = c[0]
			checkCluster(t, "DeltaOfCluster", ownFunctions()["DeltaOfCluster"], point, want, impl.ErrNone)
		}
	}
}

// checkClusterOfBranch checks the cluster of the first k points of a branch, and that the branch is kept.
func checkClusterOfBranch(t *testing.T, terms []int64, k int64, want impl.Cluster, wantCode int64) {
	t.Helper()
	checkBranchKept(t, "ClusterOfBranch", terms, func(b impl.Branch) {
		for range 2 {
			c, code := impl.ClusterOfBranch(b, k)
			if !slices.Equal(c.Parents, want.Parents) || !slices.Equal(c.Seconds, want.Seconds) || !slices.Equal(c.Weights, want.Weights) || code != wantCode {
				t.Errorf("ClusterOfBranch(%v, %d) = %v, %d; wanted %v, %d", terms, k, c, code, want, wantCode)
			}
			scribble(c.Parents, c.Seconds, c.Weights)
		}
	})
}

// TestClusterOfBranch checks clusters of branches with up to six pairs against points that the test makes from
// their sequences.
func TestClusterOfBranch(t *testing.T) {
	checkClusterOfBranch(t, []int64{2, 3}, 4, cluster([]int64{-1, 0, 1, 2}, []int64{-1, -1, 0, -1}, []int64{2, 1, 1, 1}), impl.ErrNone)
	checkClusterOfBranch(t, []int64{4, 6, 7}, 6, cluster([]int64{-1, 0, 1, 2, 3, 4}, []int64{-1, -1, 0, -1, 2, -1}, []int64{4, 2, 2, 1, 1, 1}), impl.ErrNone)
	checkClusterOfBranch(t, []int64{12, 18, 20, 21}, 8, cluster([]int64{-1, 0, 1, 2, 3, 4, 5, 6}, []int64{-1, -1, 0, -1, 2, 2, -1, 5}, []int64{12, 6, 6, 2, 2, 2, 1, 1}), impl.ErrNone)
	checkClusterOfBranch(t, []int64{1}, 1, cluster([]int64{-1}, []int64{-1}, []int64{1}), impl.ErrNone)
	checkClusterOfBranch(t, []int64{64, 65}, 1, cluster([]int64{-1}, []int64{-1}, []int64{64}), impl.ErrNone)
	pairs := map[int]int{}
	for n, terms := range append(pointBranches(), wideBranches()[:600]...) {
		pairs[len(terms)-1]++
		multiplicities := slowMultiplicities(terms, mostCluster)
		proximates := slowProximates(multiplicities)
		for k := 1; k <= mostCluster; k++ {
			if n%5 != 0 && k != 1 && k != 7 && k != mostCluster {
				continue
			}
			want := clusterWith(proximates[:k], multiplicities[:k])
			if !slowIsCluster(want) {
				t.Fatalf("%v is no cluster", want)
			}
			checkClusterOfBranch(t, terms, int64(k), want, impl.ErrNone)
		}
	}
	if pairs[0] == 0 || pairs[1] < 150 || pairs[2] < 150 || pairs[3] < 60 || pairs[6] == 0 {
		t.Errorf("numbers of pairs are %v", pairs)
	}
}

// TestBranchesOfClusters checks that the clusters of branches are consistent, with the orders of their points, and
// the delta invariant if no multiplicity is missing.
func TestBranchesOfClusters(t *testing.T) {
	complete := 0
	for _, terms := range pointBranches() {
		b := impl.Branch{Terms: terms}
		c, code := impl.ClusterOfBranch(b, mostCluster)
		if code != impl.ErrNone {
			t.Fatalf("ClusterOfBranch(%v) = %v, %d", b, c, code)
		}
		orders, _ := impl.OrdersOf(b, mostCluster)
		want, _ := boolAsLists(true, 0)
		checkCluster(t, "IsConsistent", ownFunctions()["IsConsistent"], c, want, impl.ErrNone)
		checkCluster(t, "ClusterOrders", ownFunctions()["ClusterOrders"], c, [][]int64{orders}, impl.ErrNone)
		if satellites, _ := impl.SatellitesOf(c); len(satellites) != int(countSatellites(slowProximates(c.Weights))) {
			t.Errorf("SatellitesOf(%v) = %v", c, satellites)
		}
		if len(slowSequence(terms)) <= mostCluster {
			complete++
			delta, _ := impl.DeltaInvariant(b)
			want, _ := numberAsLists(delta, 0)
			checkCluster(t, "DeltaOfCluster", ownFunctions()["DeltaOfCluster"], c, want, impl.ErrNone)
		}
	}
	if complete < 200 {
		t.Errorf("only %d branches have few points", complete)
	}
}

// TestClusterOfBranchErrors checks numbers of points out of their range, and what is no branch.
func TestClusterOfBranchErrors(t *testing.T) {
	outside := append(outsidePoints(), 0, mostCluster+1, mostCluster+2, mostPoints-1, mostPoints)
	for _, terms := range [][]int64{{1}, {2, 3}, {4, 6, 7}, {12, 18, 20, 21}, {2, 797}, longBranch} {
		for _, k := range outside {
			checkClusterOfBranch(t, terms, k, impl.Cluster{}, impl.ErrRange)
		}
	}
	for _, terms := range invalidBranches() {
		for _, k := range append(outside, 1, 2, mostCluster) {
			checkClusterOfBranch(t, terms, k, impl.Cluster{}, impl.ErrInvalid)
		}
	}
}

// pointPattern matches the texts of points of clusters; whether they make one remains open.
var pointPattern = regexp.MustCompile(`^(0|-?[1-9][0-9]{0,8})(:(0|[1-9][0-9]{0,8})(,(0|[1-9][0-9]{0,8}))?)?$`)

// grammarCluster returns the cluster with a text, or one without points.
func grammarCluster(text string) impl.Cluster {
	var c impl.Cluster
	number := func(s string) int64 {
		if s == "" {
			return -1
		}
		n, _ := strconv.ParseInt(s, 10, 64)
		return n
	}
	for _, part := range strings.Split(text, " ") {
		found := pointPattern.FindStringSubmatch(part)
		if found == nil {
			return impl.Cluster{}
		}
		c.Weights, c.Parents, c.Seconds = append(c.Weights, number(found[1])), append(c.Parents, number(found[3])), append(c.Seconds, number(found[5]))
	}
	if !slowIsCluster(c) {
		return impl.Cluster{}
	}
	return c
}

func TestClusterTexts(t *testing.T) {
	for _, c := range []struct {
		text string
		c    impl.Cluster
	}{
		{"2 1:0 1:1,0", cluster([]int64{-1, 0, 1}, []int64{-1, -1, 0}, []int64{2, 1, 1})}, {"-3 0:0 7:0", cluster([]int64{-1, 0, 0}, []int64{-1, -1, -1}, []int64{-3, 0, 7})},
		{"0", cluster([]int64{-1}, []int64{-1}, []int64{0})}, {"7", cluster([]int64{-1}, []int64{-1}, []int64{7})}, {"-7", cluster([]int64{-1}, []int64{-1}, []int64{-7})}, {"100000", cluster([]int64{-1}, []int64{-1}, []int64{100000})},
		{"-100000", cluster([]int64{-1}, []int64{-1}, []int64{-100000})}, {"5 -5:0 -10:1,0 0:2,1 90:2,0", cluster([]int64{-1, 0, 1, 2, 2}, []int64{-1, -1, 0, 1, 0}, []int64{5, -5, -10, 0, 90})},
		{"0 0:0 0:1 0:2 0:3 0:4 0:5 0:6 0:7 0:8 0:9 0:10 0:11,10 0:12,10 0:12,11", cluster([]int64{-1, 0, 1, 2, 3, 4, 5, 6, 7, 8, 9, 10, 11, 12, 12}, append(repeated(-1, 12), 10, 10, 11), repeated(0, 15))},
	} {
		text, _ := textAsLists(c.text, 0)
		checkCluster(t, "ClusterText", ownFunctions()["ClusterText"], c.c, text, impl.ErrNone)
		checkParsedCluster(t, c.text, c.c)
	}
	// The longest row, and one point more.
	row := "1" + strings.Repeat(" 1:0", mostCluster-1)
	checkParsedCluster(t, row, cluster(append([]int64{-1}, repeated(0, mostCluster-1)...), repeated(-1, mostCluster), repeated(1, mostCluster)))
	checkParsedCluster(t, row+" 1:0", impl.Cluster{})
	checkParsedCluster(t, row+strings.Repeat(" 1:0", 100000), impl.Cluster{})
}

func TestParseClusterSyntax(t *testing.T) {
	for _, text := range []string{
		"", " ", "  ", ":", ",", "-", "+", "--1", "x", "1x", "x1", "2:0", "2:0,0", "2,0", "2:", "2,", "2:,", "2:-1", "2:-1,-1", "2 1", "2 1,0", "2 :0", "2 1:", "2 1:0:", "2 1:0:0", "2 1:0,", "2 1:0,-1", "2 1:0,0", "2 1:1", "2 1:2", "2 1:-1", "2 1:,0",
		"2 -0:0", "-0", "02", "-02", "00", "000", "2 01:0", "2 1:00", "2 1:0 1:01", "2 1:0 1:1,00", "2 1:0 1:01,0", "+2", "2 +1:0", "2 1:+0", "2 1:0 1:1,+0", "-+2", "+-2", "2 - 1:0", "2  1:0", "2 1:0  1:1,0", " 2 1:0", "2 1:0 ", "2 ", " 2",
		"2 1:0 1:1,1", "2 1:0 1:1,2", "2 1:0 1:1,-1", "2 1:0 1:0,1", "2 1:0 1:0,0", "2 1:0 1:1,0,0", "2 1:0 1:1,0 1:1,0", "2 1:0 1:1,0 1:2,2", "2 1:0 1:1 1:2,0", "2 1:0 1:1,0 1:3", "2 1:0 1:1,0:", "2 1:0 1:1:0", "2 1:0 1:1, 0", "2 1: 0", "2 1 :0", "2 1:0 1:1 ,0",
		"100001", "-100001", "2 100001:0", "2 -100001:0", "1000000000", "999999999", "9999999999999999999", "18446744073709551618", "-9223372036854775808", "9223372036854775807", "2 1:4294967296", "2 1:18446744073709551616", "2 1:0 1:1,4294967296", "2 1:0 1:1,18446744073709551616",
		"2\t1:0", "2\n1:0", "2 1:0\n", "\n2", "2\r", "2 1:0;1:1,0", "2;1:0", "2 1;0", "2 1:0 1:1.0", "2.0", "2e0", "0x2", "1_0", "٢", "２", "2 1：0", "2 1:0\x00", "\x002", "2\u00a01:0", "2−1", "−2", "(2)", "2 1/0", "2 1:0 1:1,0|", "2 1:0,\xff", "2 1:0x", "2 1:0,x", "2 1:x", "2 1:x,0", "2 1:0 1:1,x", "2:x", "2 1:0 x",
		"2 1:0 1:1,0 1:2,0 1:2,1 1:2,0", "2 1:0 1:1,0 1:2,0 1:2,1 1:3,1", "1 1:1 1:0", "-", "2 -:0", "- 1:0", "2 1-:0", "2 1:0-", "1-", "2 --1:0",
	} {
		checkParsedCluster(t, text, impl.Cluster{})
		if c := grammarCluster(text); len(c.Weights) > 0 {
			t.Errorf("%q is the text of %v", text, c)
		}
	}
	for _, part := range []string{" ", "1", "0", "-", ":", ",", "1 ", ":0", " 1:0", ",0", "1,", "\x00"} {
		checkParsedCluster(t, strings.Repeat(part, 100000), impl.Cluster{})
		checkParsedCluster(t, "2"+strings.Repeat(part, 100000), impl.Cluster{})
		checkParsedCluster(t, "2 1:0"+strings.Repeat(part, 100000), impl.Cluster{})
	}
}

// TestTextsOfNoClusters checks the texts that things would have that are no clusters.
func TestTextsOfNoClusters(t *testing.T) {
	for _, c := range invalidClusters() {
		if len(c.Seconds) != len(c.Parents) || len(c.Weights) != len(c.Parents) {
			continue
		}
		var parts []string
		for i, w := range c.Weights {
			part := strconv.FormatInt(w, 10)
			if i > 0 || c.Parents[0] != -1 || c.Seconds[0] != -1 {
				part += ":" + strconv.FormatInt(c.Parents[i], 10)
			}
			if c.Seconds[i] != -1 {
				part += "," + strconv.FormatInt(c.Seconds[i], 10)
			}
			parts = append(parts, part)
		}
		checkParsedCluster(t, strings.Join(parts, " "), impl.Cluster{})
	}
}

// checkClusterGrammar checks that a text is parsed as the grammar tells, and reports whether it is one.
func checkClusterGrammar(t *testing.T, text string) bool {
	t.Helper()
	want := grammarCluster(text)
	wantCode := int64(impl.ErrNone)
	if len(want.Weights) == 0 {
		wantCode = impl.ErrSyntax
	}
	c, code := impl.ParseCluster(text)
	if !slices.Equal(c.Parents, want.Parents) || !slices.Equal(c.Seconds, want.Seconds) || !slices.Equal(c.Weights, want.Weights) || code != wantCode {
		t.Errorf("ParseCluster(%q) = %v, %d; wanted %v, %d", text, c, code, want, wantCode)
	}
	if code != impl.ErrNone {
		return false
	}
	if back, backCode := impl.ClusterText(c); back != text || backCode != impl.ErrNone {
		t.Errorf("ClusterText(%v) = %q, %d; wanted %q", c, back, backCode, text)
	}
	return true
}

// TestShortClusterTexts checks all short texts, and texts of clusters in which bytes are changed, left out or put
// in.
func TestShortClusterTexts(t *testing.T) {
	letters := "012-:, "
	right := 0
	texts := []string{""}
	for range 6 {
		var longer []string
		for _, text := range texts {
			for _, letter := range letters {
				longer = append(longer, text+string(letter))
			}
		}
		for _, text := range longer {
			if checkClusterGrammar(t, text) {
				right++
			}
		}
		texts = longer
	}
	if right < 500 {
		t.Errorf("only %d short texts are right", right)
	}
	r := rand.New(rand.NewSource(76))
	results := map[bool]int{}
	for n := range 60000 {
		text := []byte(slowFacts(randomCluster(r, 1+r.Intn(9), 7, 5, []int64{3, 12, mostWeight}[n%3])).text)
		place := r.Intn(len(text))
		switch letter := "0123456789-:, +"[r.Intn(15)]; r.Intn(3) {
		case 0:
			text[place] = letter
		case 1:
			text = slices.Delete(text, place, place+1)
		default:
			text = slices.Insert(text, place, letter)
		}
		results[checkClusterGrammar(t, string(text))]++
	}
	if results[true] < 6000 || results[false] < 20000 {
		t.Errorf("there are so many right texts: %v", results)
	}
}

// TestClusterResultsAreNew checks that the lists of results share no memory with arguments or with each other.
func TestClusterResultsAreNew(t *testing.T) {
	given := clusterCases()[4].c
	excesses := []int64{1, 2, 3, 4, 5, 6, 7}
	results := map[string]clusterFunction{
		"SimpleCluster": simpleAt(6), "ProximityMatrix": impl.ProximityMatrix, "InverseProximity": impl.InverseProximity, "ExceptionalMatrix": impl.ExceptionalMatrix,
		"ClusterOfExcesses": func(c impl.Cluster) ([][]int64, int64) { return clusterAsLists(impl.ClusterOfExcesses(c, excesses)) },
		"AddClusters":       func(c impl.Cluster) ([][]int64, int64) { return clusterAsLists(impl.AddClusters(c, c)) },
		"ParseCluster":      func(c impl.Cluster) ([][]int64, int64) { return clusterAsLists(impl.ParseCluster(slowFacts(c).text)) },
		"ClusterOfBranch": func(impl.Cluster) ([][]int64, int64) {
			return clusterAsLists(impl.ClusterOfBranch(branch(12, 18, 20, 21), 7))
		},
	}
	for name, f := range results {
		checkClusterKept(t, name, given, func(c impl.Cluster) {
			lists, code := f(c)
			if len(lists) == 0 || code != impl.ErrNone {
				t.Fatalf("%s(%v) = %v, %d", name, c, lists, code)
			}
			kept := copyLists(lists)
			for i := range lists {
				scribble(lists[i])
				_ = append(lists[i], -98)
				if !sameLists(lists[i+1:], kept[i+1:]) {
					t.Errorf("%s: list %d shares memory with lists behind it: %v", name, i, lists)
				}
			}
			if again, code := f(c); !sameLists(again, kept) || code != impl.ErrNone {
				t.Errorf("%s(%v) = %v, %d; before %v", name, c, again, code, kept)
			}
		})
	}
}
