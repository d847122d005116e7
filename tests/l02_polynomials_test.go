package tests

import (
	"math"
	"math/big"
	"math/rand"
	"regexp"
	"runtime"
	"slices"
	"strconv"
	"strings"
	"testing"
	"time"

	"loop.example/g01140/impl"
)

const (
	mostC      = impl.MaxCoefficient
	mostDegree = impl.MaxDegree
)

// power returns t^k.
func power(k int) []int64 {
	return append(repeated(0, k), 1)
}

// invalidPolynomials returns lists that are no polynomials.
func invalidPolynomials() [][]int64 {
	lists := [][]int64{
		{0}, {0, 0}, {1, 0}, {0, 1, 0}, {-1, 0, 0}, repeated(0, mostDegree), repeated(0, mostDegree+1), repeated(0, mostDegree+2),
		repeated(1, mostDegree+2), power(mostDegree + 1), append(repeated(1, mostDegree), 0), repeated(1, 3*mostDegree),
	}
	for _, n := range outsideCoefficients() {
		lists = append(lists, []int64{n}, []int64{n, 1}, []int64{1, n}, []int64{1, n, 1}, append(repeated(1, mostDegree), n))
	}
	return lists
}

// outsideCoefficients returns numbers that are no coefficients.
func outsideCoefficients() []int64 {
	return []int64{mostC + 1, -mostC - 1, math.MaxInt64, math.MinInt64, math.MaxInt64 - 1, math.MinInt64 + 1}
}

// operation is a function of two polynomials.
type operation func(p, q []int64) ([]int64, int64)

// operations are the functions of two polynomials, by name.
func operations() map[string]operation {
	return map[string]operation{
		"AddPolynomials": impl.AddPolynomials, "SubtractPolynomials": impl.SubtractPolynomials,
		"MultiplyPolynomials": impl.MultiplyPolynomials, "DividePolynomials": impl.DividePolynomials,
	}
}

// kept calls f on copies of two lists with spare capacity, writes all over its result, and checks
// that the arguments and what stands behind them are as before. It returns what f did.
func kept(t *testing.T, name string, p, q []int64, f operation) ([]int64, int64) {
	t.Helper()
	spare := []int64{71, 72, 73}
	wholeP, wholeQ := append(slices.Clone(p), spare...), append(slices.Clone(q), spare...)
	result, code := f(wholeP[:len(p)], wholeQ[:len(q)])
	copied := slices.Clone(result)
	for i := range result[:cap(result)] {
		result[:cap(result)][i] = 99
	}
	if !slices.Equal(wholeP, append(slices.Clone(p), spare...)) || !slices.Equal(wholeQ, append(slices.Clone(q), spare...)) {
		t.Errorf("%s(%v, %v) changes its arguments, or shares them", name, p, q)
	}
	return copied, code
}

// pairCase is an argument or two, and the result or the error.
type pairCase struct {
	p, q, want []int64
	code       int64
}

func checkPairs(t *testing.T, name string, f operation, cases []pairCase) {
	t.Helper()
	for _, c := range cases {
		if r, code := kept(t, name, c.p, c.q, f); !slices.Equal(r, c.want) || code != c.code {
			t.Errorf("%s(%v, %v) = %v, %d; wanted %v, %d", name, c.p, c.q, r, code, c.want, c.code)
		}
	}
}

// randomPolynomial returns a polynomial of at most the given degree, whose coefficients have at most
// the given absolute value.
func randomPolynomial(r *rand.Rand, degree int, most int64) []int64 {
	p := make([]int64, r.Intn(degree+2))
	for i := range p {
		if r.Intn(3) > 0 {
			p[i] = r.Int63n(2*most+1) - most
		}
	}
	for len(p) > 0 && p[len(p)-1] == 0 {
		p[len(p)-1] = r.Int63n(2*most+1) - most
	}
	return p
}

// bigs returns the numbers as integers of any size.
func bigs(p []int64) []*big.Int {
	list := make([]*big.Int, len(p))
	for i, c := range p {
		list[i] = big.NewInt(c)
	}
	return list
}

// coefficientsOf returns the integers as a polynomial, and whether they are all in range.
func coefficientsOf(list []*big.Int) ([]int64, bool) {
	var p []int64
	for _, c := range list {
		if new(big.Int).Abs(c).Cmp(big.NewInt(mostC)) > 0 {
			return nil, false
		}
		p = append(p, c.Int64())
	}
	for len(p) > 0 && p[len(p)-1] == 0 {
		p = p[:len(p)-1]
	}
	return p, true
}

// addTerm adds c t^k p to a sum.
func addTerm(sum []*big.Int, p []int64, c *big.Int, k int) {
	for i, a := range p {
		sum[k+i].Add(sum[k+i], new(big.Int).Mul(big.NewInt(a), c))
	}
}

// bigProduct is MultiplyPolynomials in integers of any size.
func bigProduct(p, q []int64) ([]int64, int64) {
	if len(p) == 0 || len(q) == 0 {
		return nil, impl.ErrNone
	}
	if len(p)+len(q)-2 > mostDegree {
		return nil, impl.ErrLimit
	}
	sum := bigs(make([]int64, len(p)+len(q)-1))
	for k, c := range q {
		addTerm(sum, p, big.NewInt(c), k)
		if _, ok := coefficientsOf(sum); !ok {
			return nil, impl.ErrLimit
		}
	}
	r, _ := coefficientsOf(sum)
	return r, impl.ErrNone
}

// bigQuotient is DividePolynomials in integers of any size.
func bigQuotient(p, q []int64) ([]int64, int64) {
	if len(q) == 0 || len(p) > 0 && len(p) < len(q) {
		return nil, impl.ErrState
	}
	rest := bigs(p)
	quotient := bigs(make([]int64, max(len(p)-len(q)+1, 0)))
	for k := len(p) - len(q); k >= 0; k-- {
		var left big.Int
		quotient[k].QuoRem(rest[k+len(q)-1], big.NewInt(q[len(q)-1]), &left)
		if left.Sign() != 0 {
			return nil, impl.ErrState
		}
		addTerm(rest, q, new(big.Int).Neg(quotient[k]), k)
		if _, ok := coefficientsOf(rest); !ok {
			return nil, impl.ErrLimit
		}
	}
	if r, _ := coefficientsOf(rest); len(r) > 0 {
		return nil, impl.ErrState
	}
	r, _ := coefficientsOf(quotient)
	return r, impl.ErrNone
}

// product multiplies polynomials, of which nothing may leave the range.
func product(t *testing.T, list ...[]int64) []int64 {
	t.Helper()
	p := []int64{1}
	for _, q := range list {
		var code int64
		if p, code = bigProduct(p, q); code != impl.ErrNone {
			t.Fatalf("product of %v: code %d", list, code)
		}
	}
	return p
}

func TestPolynomialConstants(t *testing.T) {
	if mostDegree != 2000 || mostC != 1000000000000 {
		t.Errorf("MaxDegree is %d, MaxCoefficient is %d", mostDegree, mostC)
	}
}

func TestIsPolynomial(t *testing.T) {
	for _, p := range [][]int64{
		nil, {}, {1}, {-1}, {0, 1}, {0, 0, -5}, {mostC}, {-mostC}, {mostC, -mostC}, repeated(1, mostDegree+1), power(mostDegree),
		repeated(mostC, mostDegree+1), repeated(-mostC, mostDegree+1),
	} {
		checkListKept(t, "IsPolynomial", p, func(p []int64) {
			if !impl.IsPolynomial(p) {
				t.Errorf("IsPolynomial(%v) is false", p)
			}
		})
	}
	for _, p := range invalidPolynomials() {
		checkListKept(t, "IsPolynomial", p, func(p []int64) {
			if impl.IsPolynomial(p) {
				t.Errorf("IsPolynomial(%v) is true", p)
			}
		})
	}
}

func TestInvalidPolynomials(t *testing.T) {
	good := [][]int64{nil, {1}, {-1, 1}, repeated(mostC, mostDegree+1)}
	for _, bad := range invalidPolynomials() {
		for name, f := range operations() {
			for _, p := range append(good, bad) {
				if r, code := f(p, bad); len(r) != 0 || code != impl.ErrInvalid {
					t.Errorf("%s(%v, %v) = %v, %d", name, p, bad, r, code)
				}
				if r, code := f(bad, p); len(r) != 0 || code != impl.ErrInvalid {
					t.Errorf("%s(%v, %v) = %v, %d", name, bad, p, r, code)
				}
			}
		}
		// Other arguments out of their ranges count behind this.
		for _, k := range []int64{1, 0, 2001, math.MinInt64} {
			if r, code := impl.SubstitutePower(bad, k); len(r) != 0 || code != impl.ErrInvalid {
				t.Errorf("SubstitutePower(%v, %d) = %v, %d", bad, k, r, code)
			}
			if n, code := impl.EvaluatePolynomial(bad, k); n != 0 || code != impl.ErrInvalid {
				t.Errorf("EvaluatePolynomial(%v, %d) = %v, %d", bad, k, n, code)
			}
		}
		if r, code := impl.ReversePolynomial(bad); len(r) != 0 || code != impl.ErrInvalid {
			t.Errorf("ReversePolynomial(%v) = %v, %d", bad, r, code)
		}
		if ok, code := impl.IsSymmetricPolynomial(bad); ok || code != impl.ErrInvalid {
			t.Errorf("IsSymmetricPolynomial(%v) = %v, %d", bad, ok, code)
		}
		if r, code := impl.CyclotomicFactors(bad); len(r) != 0 || code != impl.ErrInvalid {
			t.Errorf("CyclotomicFactors(%v) = %v, %d", bad, r, code)
		}
		if text, code := impl.PolynomialText(bad); text != "" || code != impl.ErrInvalid {
			t.Errorf("PolynomialText(%v) = %q, %d", bad, text, code)
		}
	}
}

func TestAddPolynomials(t *testing.T) {
	checkPairs(t, "AddPolynomials", impl.AddPolynomials, []pairCase{
		{[]int64{1, 1}, []int64{2, -1}, []int64{3}, 0},
		{nil, nil, nil, 0},
		{[]int64{1, 2}, nil, []int64{1, 2}, 0},
		{nil, []int64{1, 2}, []int64{1, 2}, 0},
		{[]int64{1}, []int64{0, 0, 2}, []int64{1, 0, 2}, 0},
		{[]int64{0, 0, 2}, []int64{1}, []int64{1, 0, 2}, 0},
		{[]int64{1, -2, 3}, []int64{-1, 2, -3}, nil, 0},
		{[]int64{5, 0, 0, 1}, []int64{0, 0, 0, -1}, []int64{5}, 0},
		{[]int64{mostC - 1}, []int64{1}, []int64{mostC}, 0},
		{[]int64{mostC}, []int64{1}, nil, impl.ErrLimit},
		{[]int64{1}, []int64{mostC}, nil, impl.ErrLimit},
		{[]int64{1 - mostC}, []int64{-1}, []int64{-mostC}, 0},
		{[]int64{-mostC}, []int64{-1}, nil, impl.ErrLimit},
		{[]int64{mostC, 1}, []int64{mostC, 1}, nil, impl.ErrLimit},
		{[]int64{1, mostC}, []int64{1, -mostC}, []int64{2}, 0},
		{[]int64{mostC}, []int64{0, mostC}, []int64{mostC, mostC}, 0},
		{power(mostDegree), power(mostDegree), append(repeated(0, mostDegree), 2), 0},
		{repeated(mostC, mostDegree+1), repeated(-mostC, mostDegree+1), nil, 0},
		{repeated(mostC, mostDegree+1), []int64{-1}, append([]int64{mostC - 1}, repeated(mostC, mostDegree)...), 0},
		{repeated(mostC, mostDegree+1), power(mostDegree), nil, impl.ErrLimit},
	})
}

func TestSubtractPolynomials(t *testing.T) {
	checkPairs(t, "SubtractPolynomials", impl.SubtractPolynomials, []pairCase{
		{[]int64{1, 1}, []int64{1, 1}, nil, 0},
		{[]int64{1, 1}, []int64{2, -1}, []int64{-1, 2}, 0},
		{nil, nil, nil, 0},
		{[]int64{1, 2}, nil, []int64{1, 2}, 0},
		{nil, []int64{1, -2}, []int64{-1, 2}, 0},
		{[]int64{1}, []int64{0, 0, 2}, []int64{1, 0, -2}, 0},
		{[]int64{4, 0, 2}, []int64{1, 0, 2}, []int64{3}, 0},
		{[]int64{mostC}, []int64{1}, []int64{mostC - 1}, 0},
		{[]int64{mostC}, []int64{-1}, nil, impl.ErrLimit},
		{[]int64{-mostC}, []int64{1}, nil, impl.ErrLimit},
		{[]int64{1 - mostC}, []int64{1}, []int64{-mostC}, 0},
		{[]int64{-1}, []int64{mostC}, nil, impl.ErrLimit},
		{nil, []int64{mostC}, []int64{-mostC}, 0},
		{nil, []int64{-mostC}, []int64{mostC}, 0},
		{repeated(mostC, mostDegree+1), repeated(mostC, mostDegree+1), nil, 0},
		{repeated(mostC, mostDegree+1), repeated(-mostC, mostDegree+1), nil, impl.ErrLimit},
		{power(mostDegree), power(mostDegree - 1), append(repeated(0, mostDegree-1), -1, 1), 0},
	})
}

func TestMultiplyPolynomials(t *testing.T) {
	none := []int64(nil)
	ramp := make([]int64, 2000)
	for i := range ramp {
		ramp[i] = 1000000000 * min(int64(i+1), 2000-int64(i), 1000)
	}
	checkPairs(t, "MultiplyPolynomials", impl.MultiplyPolynomials, []pairCase{
		{[]int64{-1, 1}, []int64{1, 1, 1}, []int64{-1, 0, 0, 1}, 0},
		{nil, nil, nil, 0},
		{nil, []int64{1, 1}, nil, 0},
		{[]int64{1, 1}, nil, nil, 0},
		{repeated(mostC, mostDegree+1), nil, nil, 0},
		{nil, repeated(mostC, mostDegree+1), nil, 0},
		{[]int64{1}, []int64{3, 0, -2}, []int64{3, 0, -2}, 0},
		{[]int64{3, 0, -2}, []int64{1}, []int64{3, 0, -2}, 0},
		{[]int64{-1}, []int64{3, 0, -2}, []int64{-3, 0, 2}, 0},
		{[]int64{0, 2}, []int64{0, 0, 3}, []int64{0, 0, 0, 6}, 0},
		// Degrees.
		{power(1000), power(1000), power(2000), 0},
		{power(1000), power(1001), none, impl.ErrLimit},
		{power(mostDegree), []int64{7}, append(repeated(0, mostDegree), 7), 0},
		{[]int64{7}, power(mostDegree), append(repeated(0, mostDegree), 7), 0},
		{power(mostDegree), []int64{0, 1}, none, impl.ErrLimit},
		{[]int64{0, 1}, power(mostDegree), none, impl.ErrLimit},
		{power(mostDegree), power(mostDegree), none, impl.ErrLimit},
		// Coefficients.
		{[]int64{1000000}, []int64{1000000}, []int64{mostC}, 0},
		{[]int64{-1000000}, []int64{1000000}, []int64{-mostC}, 0},
		{[]int64{1000001}, []int64{1000000}, none, impl.ErrLimit},
		{[]int64{1000000}, []int64{-1000001}, none, impl.ErrLimit},
		{[]int64{mostC}, []int64{mostC}, none, impl.ErrLimit},
		{[]int64{mostC}, []int64{-mostC}, none, impl.ErrLimit},
		{[]int64{mostC, -mostC}, []int64{-1}, []int64{-mostC, mostC}, 0},
		{[]int64{2000000, 1}, []int64{1000000}, none, impl.ErrLimit},
		{[]int64{2000001, 1}, []int64{1000000}, none, impl.ErrLimit},
		// Products that are 0 or small modulo 2^64.
		{[]int64{1 << 32}, []int64{1 << 32}, none, impl.ErrLimit},
		{[]int64{1 << 39}, []int64{1 << 25}, none, impl.ErrLimit},
		{[]int64{1 << 39, 1}, []int64{-1 << 25}, none, impl.ErrLimit},
		{[]int64{1 << 31}, []int64{1 << 32}, none, impl.ErrLimit},
		{[]int64{641 * 6700417}, []int64{1<<32 - 1}, none, impl.ErrLimit},
		// Sums that leave the range on the way, and those that do not.
		{[]int64{-999999, 1000001}, []int64{1000001, 999999}, none, impl.ErrLimit},
		{[]int64{1000001, 999999}, []int64{-999999, 1000001}, []int64{-999999999999, 4000000, 999999999999}, 0},
		{[]int64{1, 1, 1}, []int64{mostC, 1, -mostC}, none, impl.ErrLimit},
		{[]int64{1, 1, 1}, []int64{mostC, -1, 1}, []int64{mostC, mostC - 1, mostC, 0, 1}, 0},
		{[]int64{1, 1}, []int64{mostC, 1}, none, impl.ErrLimit},
		{[]int64{1, 1}, []int64{mostC, -mostC}, []int64{mostC, 0, -mostC}, 0},
		{[]int64{1, 1}, []int64{mostC, 0, mostC}, []int64{mostC, mostC, mostC, mostC}, 0},
		{repeated(1, 1001), repeated(1000000000, 1000), ramp, 0},
		{repeated(1, 1001), repeated(1000000000, 1001), none, impl.ErrLimit},
	})
}

// TestProductAcrossRange adds a product of twice MaxCoefficient to a sum of the opposite of
// MaxCoefficient, and one beyond it.
func TestProductAcrossRange(t *testing.T) {
	p := append(append([]int64{20000}, repeated(-1000, 20)...), 2000)
	q := append(repeated(50000000, 20), 100000000)
	want, code := bigProduct(p, q)
	if code != impl.ErrNone || want[20] != mostC {
		t.Fatalf("the product is %v, %d", want, code)
	}
	checkPairs(t, "MultiplyPolynomials", impl.MultiplyPolynomials, []pairCase{{p, q, want, impl.ErrNone}})
	q[20]++
	checkPairs(t, "MultiplyPolynomials", impl.MultiplyPolynomials, []pairCase{{p, q, nil, impl.ErrLimit}})
}

// TestProductsAgree checks products and quotients against those in integers of any size.
func TestProductsAgree(t *testing.T) {
	r := rand.New(rand.NewSource(2))
	for round := range 6000 {
		most := []int64{1, 3, 1000, 1000000, 1414213, 3000000000, mostC}[round%7]
		p, q := randomPolynomial(r, 7, most), randomPolynomial(r, 7, []int64{1, 2, 1000, 700000, most}[round%5])
		for name, f := range map[string][2]operation{"MultiplyPolynomials": {impl.MultiplyPolynomials, bigProduct}, "DividePolynomials": {impl.DividePolynomials, bigQuotient}} {
			want, wantCode := f[1](p, q)
			if s, code := kept(t, name, p, q, f[0]); !slices.Equal(s, want) || code != wantCode {
				t.Fatalf("%s(%v, %v) = %v, %d; wanted %v, %d", name, p, q, s, code, want, wantCode)
			}
		}
		// Multiples of q have quotients, whose remainders may leave the range.
		if pq, code := bigProduct(p, q); code == impl.ErrNone {
			want, wantCode := bigQuotient(pq, q)
			if s, code := impl.DividePolynomials(pq, q); !slices.Equal(s, want) || code != wantCode {
				t.Fatalf("DividePolynomials(%v, %v) = %v, %d; wanted %v, %d", pq, q, s, code, want, wantCode)
			}
		}
	}
}

// TestDividingUndoesMultiplying checks promise 2: the quotient of a product is the other factor.
func TestDividingUndoesMultiplying(t *testing.T) {
	r := rand.New(rand.NewSource(3))
	undone := 0
	for range 3000 {
		p, q := randomPolynomial(r, 12, 20), randomPolynomial(r, 12, 20)
		pq, code := impl.MultiplyPolynomials(p, q)
		if code != impl.ErrNone {
			t.Fatalf("MultiplyPolynomials(%v, %v): code %d", p, q, code)
		}
		s, code := impl.DividePolynomials(pq, q)
		switch {
		case len(q) == 0:
			if len(s) != 0 || code != impl.ErrState {
				t.Fatalf("DividePolynomials(%v, %v) = %v, %d", pq, q, s, code)
			}
		case !slices.Equal(s, p) || code != impl.ErrNone:
			t.Fatalf("DividePolynomials(%v, %v) = %v, %d; wanted %v", pq, q, s, code, p)
		default:
			undone++
		}
	}
	if undone < 2000 {
		t.Errorf("only %d products were divided", undone)
	}
	long := product(t, repeated(1, 1001), append(repeated(-1, 1000), 1))
	if s, code := impl.DividePolynomials(long, repeated(1, 1001)); !slices.Equal(s, append(repeated(-1, 1000), 1)) || code != impl.ErrNone {
		t.Errorf("a product of degree 2000 is not divided: %d", code)
	}
}

func TestDividePolynomials(t *testing.T) {
	none := []int64(nil)
	checkPairs(t, "DividePolynomials", impl.DividePolynomials, []pairCase{
		{[]int64{-1, 0, 0, 1}, []int64{-1, 1}, []int64{1, 1, 1}, 0},
		{[]int64{3, 0, -2}, []int64{1}, []int64{3, 0, -2}, 0},
		{[]int64{3, 0, -2}, []int64{-1}, []int64{-3, 0, 2}, 0},
		{[]int64{6, 0, -4}, []int64{2}, []int64{3, 0, -2}, 0},
		{[]int64{6, 0, -4}, []int64{-2}, []int64{-3, 0, 2}, 0},
		{[]int64{2, 4}, []int64{1, 2}, []int64{2}, 0},
		{[]int64{0, 0, 6}, []int64{0, -3}, []int64{0, -2}, 0},
		{[]int64{mostC, -mostC}, []int64{-mostC, mostC}, []int64{-1}, 0},
		{repeated(mostC, mostDegree+1), []int64{mostC}, repeated(1, mostDegree+1), 0},
		{repeated(mostC, mostDegree+1), repeated(mostC, mostDegree+1), []int64{1}, 0},
		{repeated(mostC, mostDegree+1), repeated(1, mostDegree+1), []int64{mostC}, 0},
		{power(mostDegree), power(mostDegree - 1), []int64{0, 1}, 0},
		{power(mostDegree), []int64{0, 1}, power(mostDegree - 1), 0},
		// 0 divided, and division by 0.
		{nil, []int64{1}, nil, 0},
		{nil, []int64{0, 0, 5}, nil, 0},
		{nil, repeated(1, mostDegree+1), nil, 0},
		{nil, nil, none, impl.ErrState},
		{[]int64{1}, nil, none, impl.ErrState},
		{repeated(mostC, mostDegree+1), nil, none, impl.ErrState},
		// Lesser degrees, divisions that are not possible, and remainders.
		{[]int64{1}, []int64{0, 1}, none, impl.ErrState},
		{power(mostDegree - 1), power(mostDegree), none, impl.ErrState},
		{[]int64{1, 1}, []int64{0, 2}, none, impl.ErrState},
		{[]int64{3}, []int64{2}, none, impl.ErrState},
		{[]int64{-3}, []int64{2}, none, impl.ErrState},
		{[]int64{3, 2}, []int64{2}, none, impl.ErrState},
		{[]int64{2, 3, 4}, []int64{1, 2}, none, impl.ErrState},
		{[]int64{1, 0, 1}, []int64{1, 1}, none, impl.ErrState},
		{[]int64{1, 2}, []int64{0, 1}, none, impl.ErrState},
		{[]int64{0, mostC}, []int64{1, 1}, none, impl.ErrState},
		{[]int64{0, mostC}, []int64{-1, 1}, none, impl.ErrState},
		// Remainders that leave the range on the way, and the error that arises first.
		{[]int64{-1, mostC}, []int64{1, 1}, none, impl.ErrLimit},
		{[]int64{1, mostC}, []int64{-1, 1}, none, impl.ErrLimit},
		{[]int64{0, mostC}, []int64{2, 1}, none, impl.ErrLimit},
		{[]int64{0, mostC}, []int64{mostC, 1}, none, impl.ErrLimit},
		{[]int64{0, mostC}, []int64{-mostC, 1}, none, impl.ErrLimit},
		{[]int64{0, -mostC}, []int64{mostC, -1}, none, impl.ErrLimit},
		{[]int64{0, 1 << 39}, []int64{1 << 25, 1}, none, impl.ErrLimit},
		{[]int64{0, 1 << 39}, []int64{-1 << 25, 1}, none, impl.ErrLimit},
		{[]int64{0, mostC, 1}, []int64{mostC, 2}, none, impl.ErrState},
		{[]int64{0, 0, 2}, []int64{mostC, 2}, none, impl.ErrLimit},
		{[]int64{0, 1, 2}, []int64{2, 2}, none, impl.ErrState},
		{[]int64{-mostC, 3, 2}, []int64{mostC, 0, 2}, none, impl.ErrLimit},
	})
}

// TestQuotientLeavesRange divides a product that is in range, by way of remainders that are not.
func TestQuotientLeavesRange(t *testing.T) {
	p := squaresAndSums(t, 6, 38)
	q := product(t, slices.Repeat([][]int64{{-1, 1}}, 6)...)
	if r, code := impl.DividePolynomials(p, q); len(r) != 0 || code != impl.ErrLimit {
		t.Errorf("DividePolynomials(%v, %v) = %v, %d", p, q, r, code)
	}
}

// squaresAndSums returns (t^2 - 1)^a (t + 1)^b.
func squaresAndSums(t *testing.T, a, b int) []int64 {
	t.Helper()
	return product(t, append(slices.Repeat([][]int64{{-1, 0, 1}}, a), slices.Repeat([][]int64{{1, 1}}, b)...)...)
}

// TestNoSenderIsLeftBehind checks that multiplications end all that they began, also beside errors.
func TestNoSenderIsLeftBehind(t *testing.T) {
	before := runtime.NumGoroutine()
	for range 200 {
		impl.MultiplyPolynomials(repeated(mostC, 500), repeated(mostC, 500))
		impl.MultiplyPolynomials(repeated(1, 50), repeated(1, 50))
		impl.MultiplyPolynomials(repeated(1, 2001), repeated(1, 2001))
		impl.MultiplyPolynomials([]int64{0}, repeated(1, 50))
	}
	// A sender that has closed its channel may take a moment to end.
	for range 5000 {
		if runtime.NumGoroutine() <= before {
			return
		}
		time.Sleep(time.Millisecond)
	}
	t.Errorf("%d goroutines are now %d", before, runtime.NumGoroutine())
}

func TestSubstitutePower(t *testing.T) {
	for _, c := range []struct {
		p    []int64
		k    int64
		want []int64
		code int64
	}{
		{[]int64{1, 2}, 3, []int64{1, 0, 0, 2}, 0},
		{[]int64{1, -2, 3}, 1, []int64{1, -2, 3}, 0},
		{[]int64{1, -2, 3}, 2, []int64{1, 0, -2, 0, 3}, 0},
		{nil, 1, nil, 0},
		{nil, mostDegree, nil, 0},
		{[]int64{-mostC}, mostDegree, []int64{-mostC}, 0},
		{[]int64{0, mostC}, mostDegree, append(repeated(0, mostDegree), mostC), 0},
		{power(2), 1000, power(2000), 0},
		{power(2), 1001, nil, impl.ErrLimit},
		{power(3), 667, nil, impl.ErrLimit},
		{power(1000), 2, power(2000), 0},
		{power(1001), 2, nil, impl.ErrLimit},
		{repeated(1, mostDegree+1), 1, repeated(1, mostDegree+1), 0},
		{power(mostDegree), 2, nil, impl.ErrLimit},
		{power(mostDegree), mostDegree, nil, impl.ErrLimit},
		{power(mostDegree), mostDegree + 1, nil, impl.ErrRange},
		{nil, 0, nil, impl.ErrRange}, {nil, mostDegree + 1, nil, impl.ErrRange},
		{[]int64{1}, 0, nil, impl.ErrRange}, {[]int64{1}, -1, nil, impl.ErrRange}, {[]int64{1}, mostDegree + 1, nil, impl.ErrRange},
		{[]int64{1, 1}, math.MaxInt64, nil, impl.ErrRange}, {[]int64{1, 1}, math.MinInt64, nil, impl.ErrRange},
		{[]int64{1, 1, 1}, 1 << 63 >> 1, nil, impl.ErrRange}, {[]int64{1, 1, 1, 1, 1}, 1 << 62, nil, impl.ErrRange},
	} {
		substitute := func(p, q []int64) ([]int64, int64) { return impl.SubstitutePower(p, c.k) }
		if p, code := kept(t, "SubstitutePower", c.p, nil, substitute); !slices.Equal(p, c.want) || code != c.code {
			t.Errorf("SubstitutePower(%v, %d) = %v, %d; wanted %v, %d", c.p, c.k, p, code, c.want, c.code)
		}
	}
}

func TestEvaluatePolynomial(t *testing.T) {
	for _, c := range []struct {
		p       []int64
		x, want int64
		code    int64
	}{
		{[]int64{1, 2, 3}, -2, 9, 0},
		{[]int64{1, 2, 3}, 0, 1, 0},
		{[]int64{1, 2, 3}, 1, 6, 0},
		{[]int64{1, 2, 3}, 1000, 3002001, 0},
		{[]int64{1, 2, 3}, -1000, 2998001, 0},
		{[]int64{1, 2, 3}, 1001, 0, impl.ErrRange},
		{[]int64{1, 2, 3}, -1001, 0, impl.ErrRange},
		{nil, 0, 0, 0}, {nil, 1000, 0, 0}, {nil, -1000, 0, 0},
		{nil, 1001, 0, impl.ErrRange}, {nil, math.MinInt64, 0, impl.ErrRange}, {nil, math.MaxInt64, 0, impl.ErrRange},
		{[]int64{-mostC}, 1000, -mostC, 0},
		{[]int64{5}, -1001, 0, impl.ErrRange},
		{power(4), 1000, mostC, 0},
		{power(4), -1000, mostC, 0},
		{power(5), -1000, 0, impl.ErrLimit},
		{[]int64{1, 0, 0, 0, 1}, 1000, 0, impl.ErrLimit},
		{[]int64{0, 1000000000}, 1000, mostC, 0},
		{[]int64{0, 1000000000}, -1000, -mostC, 0},
		{[]int64{-1, 1000000000}, -1000, 0, impl.ErrLimit},
		{[]int64{1, 1000000000}, -1000, 1 - mostC, 0},
		{[]int64{0, 1000000001}, 1000, 0, impl.ErrLimit},
		// A product counts with the next coefficient only.
		{[]int64{-1000, 1000000001}, 1000, mostC, 0},
		{[]int64{-mostC, mostC}, 2, mostC, 0},
		{[]int64{-mostC, mostC}, -1, 0, impl.ErrLimit},
		{[]int64{mostC, mostC}, -1, 0, 0},
		{[]int64{mostC, mostC}, -2, -mostC, 0},
		{[]int64{mostC, mostC}, -3, 0, impl.ErrLimit},
		// The value leaves the range on the way.
		{[]int64{-mostC, -1, mostC}, -1, 0, impl.ErrLimit},
		{[]int64{-mostC, 1, mostC}, -1, -1, 0},
		{[]int64{7, mostC, 1}, 1, 0, impl.ErrLimit},
		{[]int64{7, mostC, 1}, 0, 7, 0},
		{repeated(mostC, mostDegree+1), 1000, 0, impl.ErrLimit},
		{repeated(mostC, mostDegree+1), -1, mostC, 0},
		{repeated(mostC, mostDegree+1), 0, mostC, 0},
		{repeated(1, mostDegree+1), 1, 2001, 0},
		{repeated(500000000, mostDegree), 1, mostC, 0},
		{repeated(500000000, mostDegree+1), 1, 0, impl.ErrLimit},
	} {
		checkListKept(t, "EvaluatePolynomial", c.p, func(p []int64) {
			if n, code := impl.EvaluatePolynomial(p, c.x); n != c.want || code != c.code {
				t.Errorf("EvaluatePolynomial(%v, %d) = %d, %d; wanted %d, %d", p, c.x, n, code, c.want, c.code)
			}
		})
	}
}

func TestReversePolynomial(t *testing.T) {
	for _, c := range [][2][]int64{
		{{0, 1, 2}, {2, 1}}, {nil, nil}, {{5}, {5}}, {{0, 5}, {5}}, {{1, 2}, {2, 1}}, {{1, 0, 2}, {2, 0, 1}}, {{1, 2, 1}, {1, 2, 1}},
		{{0, 0, 3, 0, 4}, {4, 0, 3}}, {power(mostDegree), {1}}, {{-mostC, mostC}, {mostC, -mostC}},
		{append([]int64{7}, power(mostDegree-1)...), append(append([]int64{1}, repeated(0, mostDegree-1)...), 7)},
	} {
		reverse := func(p, q []int64) ([]int64, int64) { return impl.ReversePolynomial(p) }
		if p, code := kept(t, "ReversePolynomial", c[0], nil, reverse); !slices.Equal(p, c[1]) || code != impl.ErrNone {
			t.Errorf("ReversePolynomial(%v) = %v, %d", c[0], p, code)
		}
	}
}

func TestIsSymmetricPolynomial(t *testing.T) {
	check := func(p []int64, want bool) {
		checkListKept(t, "IsSymmetricPolynomial", p, func(p []int64) {
			if ok, code := impl.IsSymmetricPolynomial(p); ok != want || code != impl.ErrNone {
				t.Errorf("IsSymmetricPolynomial(%v) = %v, %d", p, ok, code)
			}
		})
	}
	for _, p := range [][]int64{nil, {3}, {1, 1}, {1, -1, 1}, {2, 3, 3, 2}, {-mostC, 0, -mostC}, repeated(mostC, mostDegree+1)} {
		check(p, true)
	}
	for _, p := range [][]int64{{0, 1}, {1, 2}, {-1, 1}, {1, 2, 2}, {1, 2, 3, 1}, {0, 1, 1}, {0, 1, 0, 1}, power(mostDegree), {-1, 0, 1}} {
		check(p, false)
	}
}

// mobius returns the Moebius function of n.
func mobius(n int) int {
	m := 1
	for f := 2; n > 1; f++ {
		if n%f == 0 {
			n, m = n/f, -m
		}
		if n%f == 0 {
			return 0
		}
	}
	return m
}

// totient counts the numbers up to n without common divisors with n.
func totient(n int) int {
	count := 0
	for k := 1; k <= n; k++ {
		if trialDivisor(int64(k), int64(n)) == 1 {
			count++
		}
	}
	return count
}

// cyclotomicSeries calculates the cyclotomic polynomial of n > 1 as a product of powers 1 or -1 of
// the 1 - t^d over the divisors d, modulo powers beyond its degree.
func cyclotomicSeries(n int, degree int) []int64 {
	p := append([]int64{1}, repeated(0, degree)...)
	for d := 1; d <= n; d++ {
		if n%d != 0 {
			continue
		}
		switch mobius(n / d) {
		case 1:
			for k := degree; k >= d; k-- {
				p[k] -= p[k-d]
			}
		case -1:
			for k := d; k <= degree; k++ {
				p[k] += p[k-d]
			}
		}
	}
	return p
}

func TestCyclotomicPolynomial(t *testing.T) {
	for n, want := range map[int64][]int64{
		1: {-1, 1}, 2: {1, 1}, 3: {1, 1, 1}, 4: {1, 0, 1}, 5: {1, 1, 1, 1, 1}, 6: {1, -1, 1}, 8: {1, 0, 0, 0, 1}, 9: {1, 0, 0, 1, 0, 0, 1},
		10: {1, -1, 1, -1, 1}, 12: {1, 0, -1, 0, 1}, 15: {1, -1, 0, 1, -1, 1, 0, -1, 1}, 1999: repeated(1, 1999),
	} {
		if p, code := impl.CyclotomicPolynomial(n); !slices.Equal(p, want) || code != impl.ErrNone {
			t.Errorf("CyclotomicPolynomial(%d) = %v, %d", n, p, code)
		}
	}
	for n := 2; n <= mostDegree; n++ {
		p, code := impl.CyclotomicPolynomial(int64(n))
		if code != impl.ErrNone || !slices.Equal(p, cyclotomicSeries(n, len(p)-1)) {
			t.Errorf("CyclotomicPolynomial(%d) = %v, %d", n, p, code)
		}
		if n%7 == 0 && len(p)-1 != totient(n) {
			t.Errorf("CyclotomicPolynomial(%d) has the degree %d", n, len(p)-1)
		}
	}
	for _, n := range []int64{0, -1, mostDegree + 1, -mostDegree, math.MaxInt64, math.MinInt64, 1<<32 + 1} {
		if p, code := impl.CyclotomicPolynomial(n); len(p) != 0 || code != impl.ErrRange {
			t.Errorf("CyclotomicPolynomial(%d) = %v, %d", n, p, code)
		}
	}
}

// TestCyclotomicProducts checks that binomials are the products of the cyclotomic polynomials of all
// divisors.
func TestCyclotomicProducts(t *testing.T) {
	numbers := []int{210, 1001, 1155, 1680, 1890, 1995, 1999, 2000}
	for n := 1; n <= 120; n++ {
		numbers = append(numbers, n)
	}
	for _, n := range numbers {
		p := []int64{1}
		for d := 1; d <= n; d++ {
			if n%d == 0 {
				c, _ := impl.CyclotomicPolynomial(int64(d))
				p, _ = impl.MultiplyPolynomials(p, c)
			}
		}
		want := power(n)
		want[0] = -1
		if !slices.Equal(p, want) {
			t.Errorf("cyclotomic polynomials of the divisors of %d make %v", n, p)
		}
	}
}

// checkFactors checks factors, and, for promise 2, that they make the polynomial up to its sign.
func checkFactors(t *testing.T, p []int64, want [][]int64) {
	t.Helper()
	checkListKept(t, "CyclotomicFactors", p, func(p []int64) {
		factors, code := impl.CyclotomicFactors(p)
		if !slices.EqualFunc(factors, want, slices.Equal) || code != impl.ErrNone {
			t.Errorf("CyclotomicFactors(%v) = %v, %d; wanted %v", p, factors, code, want)
		}
		made := bigs([]int64{1})
		for _, f := range factors {
			c, _ := impl.CyclotomicPolynomial(f[0])
			for range f[1] {
				next := bigs(make([]int64, len(made)+len(c)-1))
				for k, b := range made {
					addTerm(next, c, b, k)
				}
				made = next
			}
		}
		q, _ := coefficientsOf(made)
		if opposite, _ := impl.SubtractPolynomials(nil, q); !slices.Equal(q, p) && !slices.Equal(opposite, p) {
			t.Errorf("factors %v of %v make %v", factors, p, q)
		}
	})
}

func TestCyclotomicFactors(t *testing.T) {
	for _, c := range []struct {
		p    []int64
		want [][]int64
	}{
		{[]int64{-1, 0, 0, 1}, [][]int64{{1, 1}, {3, 1}}},
		{[]int64{1, 0, 0, -1}, [][]int64{{1, 1}, {3, 1}}},
		{[]int64{1}, nil},
		{[]int64{-1}, nil},
		{[]int64{-1, 1}, [][]int64{{1, 1}}},
		{[]int64{1, -1}, [][]int64{{1, 1}}},
		{[]int64{1, 2, 1}, [][]int64{{2, 2}}},
		{[]int64{-1, -2, -1}, [][]int64{{2, 2}}},
		{[]int64{1, 0, 0, 0, 0, 0, 1}, [][]int64{{4, 1}, {12, 1}}},
		{append([]int64{-1}, power(49)...), [][]int64{{1, 1}, {2, 1}, {5, 1}, {10, 1}, {25, 1}, {50, 1}}},
		{squaresAndSums(t, 25, 0), [][]int64{{1, 25}, {2, 25}}},
		// Quotients on the way are not in the range of coefficients.
		{squaresAndSums(t, 6, 38), [][]int64{{1, 6}, {2, 44}}},
		{squaresAndSums(t, 8, 34), [][]int64{{1, 8}, {2, 42}}},
	} {
		checkFactors(t, c.p, c.want)
	}
	for n := 1; n <= 220; n++ {
		p, _ := impl.CyclotomicPolynomial(int64(n))
		if totient(n) <= 50 {
			checkFactors(t, p, [][]int64{{int64(n), 1}})
		} else if f, code := impl.CyclotomicFactors(p); len(f) != 0 || code != impl.ErrRange {
			t.Errorf("CyclotomicFactors(%v) = %v, %d", p, f, code)
		}
	}
}

func TestCyclotomicFactorsErrors(t *testing.T) {
	salem := []int64{1, 1, 0, -1, -1, -1, -1, -1, 0, 1, 1}
	alternating := repeated(mostC, 51)
	for i := 0; i < 50; i += 2 {
		alternating[i] = -mostC
	}
	for _, p := range [][]int64{
		nil, {2}, {-2}, {mostC}, {0, 1}, {0, -1}, {2, 1}, {1, 2}, {-2, 2}, {2, 2}, {1, 3, 1}, {-1, -1, 1}, {0, -1, 1}, {0, 0, -1, 0, 0, 1},
		{-1, 0, 0, 2}, {mostC, 1}, {1, mostC}, {1, mostC, 1}, salem, product(t, salem, []int64{-1, 1}), product(t, salem, salem, []int64{1, 0, 1}),
		power(50), repeated(mostC, 51), alternating, append(repeated(mostC, 50), 1), append(repeated(-mostC, 50), 1), append(slices.Clone(alternating[:50]), 1),
		product(t, []int64{2}, power(20), []int64{1, 1}), append([]int64{1, 1}, power(48)...),
	} {
		if f, code := impl.CyclotomicFactors(p); len(f) != 0 || code != impl.ErrState {
			t.Errorf("CyclotomicFactors(%v) = %v, %d", p, f, code)
		}
	}
	for _, p := range [][]int64{append([]int64{-1}, power(50)...), power(51), repeated(1, 52), repeated(mostC, 52), repeated(1, mostDegree+1)} {
		if f, code := impl.CyclotomicFactors(p); len(f) != 0 || code != impl.ErrRange {
			t.Errorf("CyclotomicFactors(%v) = %v, %d", p, f, code)
		}
	}
}

// TestAllCyclotomicFactors checks all products of cyclotomic polynomials of a degree of at most 6, and
// that of all small polynomials of a degree of at most 4 no others have factors.
func TestAllCyclotomicFactors(t *testing.T) {
	made := map[string]bool{}
	var extend func(p []int64, factors [][]int64, n int64)
	extend = func(p []int64, factors [][]int64, n int64) {
		opposite, _ := impl.SubtractPolynomials(nil, p)
		for _, q := range [][]int64{p, opposite} {
			checkFactors(t, q, factors)
			text, _ := impl.PolynomialText(q)
			made[text] = true
		}
		for ; n <= 18; n++ {
			c, _ := impl.CyclotomicPolynomial(n)
			longer := slices.Clone(factors)
			for q, e := p, int64(1); len(q)+len(c)-2 <= 6; e++ {
				q = product(t, q, c)
				extend(q, append(slices.Clone(longer), []int64{n, e}), n+1)
			}
		}
	}
	extend([]int64{1}, nil, 1)
	for code := range 9 * 9 * 9 * 9 * 9 {
		p := make([]int64, 5)
		for i := range p {
			p[i] = int64(code%9) - 4
			code /= 9
		}
		for len(p) > 0 && p[len(p)-1] == 0 {
			p = p[:len(p)-1]
		}
		text, _ := impl.PolynomialText(p)
		if f, code := impl.CyclotomicFactors(p); (code == impl.ErrNone) != made[text] || code != impl.ErrNone && (code != impl.ErrState || len(f) != 0) {
			t.Errorf("CyclotomicFactors(%v) = %v, %d", p, f, code)
		}
	}
}

// TestManyCyclotomicFactors checks products of up to the degree 50.
func TestManyCyclotomicFactors(t *testing.T) {
	r := rand.New(rand.NewSource(4))
	for range 150 {
		exponents := map[int64]int64{}
		p := []int64{1}
		for range 60 {
			n := 1 + r.Int63n([]int64{3, 8, 30, 210}[r.Intn(4)])
			c, _ := impl.CyclotomicPolynomial(n)
			if len(p)+len(c)-2 > 50 {
				continue
			}
			if q, code := bigProduct(p, c); code == impl.ErrNone {
				p = q
				exponents[n]++
			}
		}
		var want [][]int64
		for n := int64(1); n <= 210; n++ {
			if exponents[n] > 0 {
				want = append(want, []int64{n, exponents[n]})
			}
		}
		checkFactors(t, p, want)
	}
}

func TestFactorsShareNothing(t *testing.T) {
	f, _ := impl.CyclotomicFactors([]int64{-1, 0, 0, 1})
	_ = append(f[0], 50)
	f[0][0] = 90
	if !slices.EqualFunc(f, [][]int64{{90, 1}, {3, 1}}, slices.Equal) {
		t.Errorf("factors share memory: %v", f)
	}
	p, _ := impl.CyclotomicPolynomial(6)
	p[0] = 90
	if again, _ := impl.CyclotomicPolynomial(6); !slices.Equal(again, []int64{1, -1, 1}) {
		t.Errorf("results share memory: %v", again)
	}
}

// bigBinomialProduct is BinomialProduct by products and quotients in integers of any size.
func bigBinomialProduct(list [][]int64) ([]int64, int64) {
	p, code := []int64{1}, int64(impl.ErrNone)
	var degree int64
	for _, b := range list {
		degree += max(0, b[0]*b[1])
	}
	if degree > mostDegree {
		return nil, impl.ErrLimit
	}
	for _, f := range []struct {
		sign  int64
		apply operation
	}{{1, bigProduct}, {-1, bigQuotient}} {
		for _, b := range list {
			binomial := power(int(b[0]))
			binomial[0] = -1
			for e := f.sign * b[1]; e > 0; e-- {
				if p, code = f.apply(p, binomial); code != impl.ErrNone {
					return nil, code
				}
			}
		}
	}
	return p, impl.ErrNone
}

// binomialsKept calls BinomialProduct and checks that its argument is as before.
func binomialsKept(t *testing.T, list [][]int64) ([]int64, int64) {
	t.Helper()
	before := make([][]int64, len(list))
	for i, b := range list {
		before[i] = slices.Clone(b)
	}
	p, code := impl.BinomialProduct(list)
	if !slices.EqualFunc(list, before, slices.Equal) {
		t.Errorf("BinomialProduct changes its argument: %v is now %v", before, list)
	}
	return p, code
}

func TestBinomialProduct(t *testing.T) {
	full := repeated(0, mostDegree+1)
	full[0], full[mostDegree] = -1, 1
	cases := []struct {
		list [][]int64
		want []int64
		code int64
	}{
		{[][]int64{{6, 1}, {1, 1}, {2, -1}, {3, -1}}, []int64{1, -1, 1}, 0},
		{[][]int64{{2, -1}, {3, -1}, {6, 1}, {1, 1}}, []int64{1, -1, 1}, 0},
		{[][]int64{{1, -1}, {3, 1}}, []int64{1, 1, 1}, 0},
		{nil, []int64{1}, 0},
		{[][]int64{}, []int64{1}, 0},
		{[][]int64{{7, 0}}, []int64{1}, 0},
		{[][]int64{{mostDegree, 0}, {1, 0}}, []int64{1}, 0},
		{[][]int64{{1, 2}}, []int64{1, -2, 1}, 0},
		{[][]int64{{1, 1}, {1, 1}}, []int64{1, -2, 1}, 0},
		{[][]int64{{1, 2}, {1, -1}, {1, -1}}, []int64{1}, 0},
		{[][]int64{{1, 20}, {1, -20}}, []int64{1}, 0},
		{[][]int64{{3, 1}, {2, -1}}, nil, impl.ErrState},
		{[][]int64{{1, -1}}, nil, impl.ErrState},
		{[][]int64{{1, 20}, {1, -20}, {1, -1}}, nil, impl.ErrState},
		{[][]int64{{mostDegree, -20}}, nil, impl.ErrState},
		{[][]int64{{mostDegree, 1}}, full, 0},
		{[][]int64{{mostDegree, 1}, {1, 1}}, nil, impl.ErrLimit},
		{[][]int64{{mostDegree, 1}, {1, 1}, {1, -1}}, nil, impl.ErrLimit},
		{[][]int64{{mostDegree, 1}, {1, 0}}, full, 0},
		{[][]int64{{1001, 2}}, nil, impl.ErrLimit},
		{[][]int64{{101, 20}}, nil, impl.ErrLimit},
		{[][]int64{{1, 20}, {1, 20}, {1, 3}}, nil, impl.ErrLimit},
		{[][]int64{{1, 20}, {1, 20}, {1, 3}, {1, -20}, {1, -20}}, nil, impl.ErrLimit},
		// A product within the range, whose quotient is not; and the error that arises first.
		{[][]int64{{2, 20}, {3, 20}, {1, -20}, {1, -20}}, nil, impl.ErrLimit},
		{[][]int64{{2, 20}, {3, 20}, {1, -20}, {1, -20}, {7, -1}}, nil, impl.ErrLimit},
		{[][]int64{{2, 20}, {3, 20}, {7, -1}, {1, -20}, {1, -20}}, nil, impl.ErrState},
		// Lists that are not as told count in front of the limits.
		{[][]int64{{0, 1}}, nil, impl.ErrRange}, {[][]int64{{-1, 1}}, nil, impl.ErrRange}, {[][]int64{{0, 0}}, nil, impl.ErrRange},
		{[][]int64{{mostDegree + 1, 1}}, nil, impl.ErrRange}, {[][]int64{{mostDegree + 1, 0}}, nil, impl.ErrRange},
		{[][]int64{{1, 21}}, nil, impl.ErrRange}, {[][]int64{{1, -21}}, nil, impl.ErrRange},
		{[][]int64{{math.MaxInt64, 1}}, nil, impl.ErrRange}, {[][]int64{{math.MinInt64, 1}}, nil, impl.ErrRange},
		{[][]int64{{1, math.MaxInt64}}, nil, impl.ErrRange}, {[][]int64{{1, math.MinInt64}}, nil, impl.ErrRange},
		{[][]int64{{}}, nil, impl.ErrRange}, {[][]int64{nil}, nil, impl.ErrRange}, {[][]int64{{1}}, nil, impl.ErrRange}, {[][]int64{{1, 1, 1}}, nil, impl.ErrRange},
		{[][]int64{{mostDegree, 20}, {0, 1}}, nil, impl.ErrRange}, {[][]int64{{1, -1}, {1, 21}}, nil, impl.ErrRange},
		{slices.Repeat([][]int64{{mostDegree, 20}}, 40), nil, impl.ErrLimit},
		{slices.Repeat([][]int64{{mostDegree, 20}}, 41), nil, impl.ErrRange},
		{slices.Repeat([][]int64{{1, 0}}, 40), []int64{1}, 0},
		{slices.Repeat([][]int64{{1, 0}}, 41), nil, impl.ErrRange},
		{slices.Repeat([][]int64{{1, 20}}, 40), nil, impl.ErrLimit},
		{append(slices.Repeat([][]int64{{1, 1}, {1, -1}}, 19), []int64{2, 1}, []int64{1, -1}), []int64{1, 1}, 0},
	}
	for _, c := range cases {
		if p, code := binomialsKept(t, c.list); !slices.Equal(p, c.want) || code != c.code {
			t.Errorf("BinomialProduct(%v) = %v, %d; wanted %v, %d", c.list, p, code, c.want, c.code)
		}
	}
	for _, list := range [][][]int64{{{1, 20}, {1, 20}, {1, 2}}, {{100, 20}}, {{50, 20}, {50, 20}}, {{1999, 1}, {1, 1}}, {{2000, 1}, {1000, -1}, {400, -1}, {200, -1}}} {
		want, wantCode := bigBinomialProduct(list)
		if p, code := binomialsKept(t, list); !slices.Equal(p, want) || code != wantCode {
			t.Errorf("BinomialProduct(%v) = %v, %d; wanted %v, %d", list, p, code, want, wantCode)
		}
	}
}

func TestBinomialProductsAgree(t *testing.T) {
	r := rand.New(rand.NewSource(5))
	codes := map[int64]int{}
	for range 1500 {
		list := make([][]int64, r.Intn(6))
		for i := range list {
			list[i] = []int64{1 + r.Int63n(12), []int64{-2, -1, -1, 1, 1, 2, 3, 9}[r.Intn(8)]}
		}
		want, wantCode := bigBinomialProduct(list)
		if p, code := binomialsKept(t, list); !slices.Equal(p, want) || code != wantCode {
			t.Fatalf("BinomialProduct(%v) = %v, %d; wanted %v, %d", list, p, code, want, wantCode)
		}
		codes[wantCode]++
	}
	if codes[impl.ErrNone] < 200 || codes[impl.ErrState] < 200 {
		t.Errorf("codes are %v", codes)
	}
}

func TestPolynomialTexts(t *testing.T) {
	for text, p := range map[string][]int64{
		"0": nil, "1": {1}, "-1": {-1}, "12": {12}, "-120": {-120}, "t": {0, 1}, "-t": {0, -1}, "-2t": {0, -2}, "10t": {0, 10},
		"t^2": {0, 0, 1}, "-t^2": {0, 0, -1}, "t^2-t+1": {1, -1, 1}, "-t^3+12": {12, 0, 0, -1}, "t+1": {1, 1}, "t-1": {-1, 1}, "-t-1": {-1, -1},
		"-t+1": {1, -1}, "11t^11+t^10-t^9-11t-11": {-11, -11, 0, 0, 0, 0, 0, 0, 0, -1, 1, 11}, "t^2+t": {0, 1, 1}, "3t^2-10": {-10, 0, 3},
		"999999999": {999999999}, "-999999999t": {0, -999999999}, "999999999t^2-999999999": {-999999999, 0, 999999999},
		"t^2000": power(2000), "-7t^2000-1": append([]int64{-1}, append(repeated(0, 1999), -7)...), "t^1999+2": append([]int64{2}, power(1998)...),
	} {
		checkListKept(t, "PolynomialText", p, func(p []int64) {
			if s, code := impl.PolynomialText(p); s != text || code != impl.ErrNone {
				t.Errorf("PolynomialText(%v) = %q, %d", p, s, code)
			}
		})
		if q, code := impl.ParsePolynomial(text); !slices.Equal(q, p) || code != impl.ErrNone || !impl.IsPolynomial(q) {
			t.Errorf("ParsePolynomial(%q) = %v, %d", text, q, code)
		}
	}
	// Texts with numbers of more than nine digits are made, but not parsed.
	for text, p := range map[string][]int64{
		"1000000000": {1000000000}, "-1000000000t": {0, -1000000000}, "t-1000000000": {-1000000000, 1}, "1000000000000t+1": {1, mostC},
		"-1000000000000": {-mostC}, "t^2+1234567890t": {0, 1234567890, 1},
	} {
		if s, code := impl.PolynomialText(p); s != text || code != impl.ErrNone {
			t.Errorf("PolynomialText(%v) = %q, %d", p, s, code)
		}
		if q, code := impl.ParsePolynomial(text); len(q) != 0 || code != impl.ErrSyntax {
			t.Errorf("ParsePolynomial(%q) = %v, %d", text, q, code)
		}
	}
}

// TestPolynomialTextsComeBack checks promise 2: texts are parsed to their polynomials.
func TestPolynomialTextsComeBack(t *testing.T) {
	r := rand.New(rand.NewSource(6))
	for round := range 3000 {
		p := randomPolynomial(r, []int{3, 10, 30}[round%3], []int64{1, 2, 15, 999999999}[round%4])
		checkTextComesBack(t, p)
	}
	checkTextComesBack(t, randomPolynomial(r, mostDegree, 999999999))
	checkTextComesBack(t, repeated(-999999999, mostDegree+1))
}

func checkTextComesBack(t *testing.T, p []int64) {
	t.Helper()
	text, code := impl.PolynomialText(p)
	if code != impl.ErrNone {
		t.Fatalf("PolynomialText(%v): code %d", p, code)
	}
	if q, code := impl.ParsePolynomial(text); !slices.Equal(q, p) || code != impl.ErrNone {
		t.Fatalf("ParsePolynomial(%q) = %v, %d; wanted %v", text, q, code, p)
	}
}

func TestParsePolynomialSyntax(t *testing.T) {
	for _, text := range []string{
		"", "+", "-", "++", "--", "+-", "-+", "^", "^2", "t^", "-t^", "t^-1", "t^+2", "tt", "t2", "t^2t", "t^^2", "t^2^2", "2^2", "2^t", "2t2", "2t3t",
		"+1", "+0", "+t", "+t^2", "++t", "--t", "-+t", "+-t", "t-", "t+", "t+-1", "t-+1", "t--1", "t++1", "t^2+", "t^2-", "-t-", "1+", "1-",
		"-0", "00", "01", "-01", "007", "0t", "-0t", "00t", "01t", "02t^2", "0t^2", "1t", "-1t", "1t^2", "-1t^2", "t+1t", "t^2+1t", "t^3-1t^2",
		"t^0", "t^1", "2t^0", "2t^1", "-t^1", "t^02", "t^00", "t^01", "t^2+t^1", "t^2+t^0",
		"t+0", "t-0", "0+0", "0-0", "0+t", "0-t", "0+1", "t^2+0t", "t^2+0t+1", "t^3+0t^2+1", "1+0", "t+00",
		"t+t", "t-t", "t+2t", "2t-t", "1+1", "1-1", "1+2", "t^2+t^2", "t+1+1", "t+1-1", "t^2-t-t", "1+t", "-1+t", "t+t^2", "t^2+1+t", "1+t+t^2", "t^2+t^3",
		"t^2001", "-t^2001", "2t^2001", "t^2001+1", "t^9999", "t^999999999", "t^1000000000", "t^18446744073709551618", "t^4294967298",
		"1000000000", "-1000000000", "1000000000t", "t+1000000000", "t^2-1000000000t", "0000000001", "000000000", "0000000001t", "1234567890",
		"9223372036854775808", "18446744073709551617", "18446744073709551617t", "99999999999999999999999999999999",
		"x", "T", "2x", "t^x", "x^2", "s", "2T", "a", "t*2", "2*t", "t/2", "1/2", "t^2.0", "1.0", "1e3", "0x1", "1_0", "1,2", "t^1_0",
		" ", " t", "t ", "t +1", "t+ 1", "t ^2", "t^ 2", "2 t", "- t", "t\n", "\tt", "\n", "1 ", " 1", "(t)", "{t}", "t\x00", "\x00", "\xff", "t\xff", "t^\xff",
		"\xfft", "t+\xff", "１", "t^２", "ｔ", "t²", "−t", "t−1", "t＋1", "٣t", "é", "t^2+é", "\xe2\x88", "2\xe2t",
	} {
		if p, code := impl.ParsePolynomial(text); len(p) != 0 || code != impl.ErrSyntax {
			t.Errorf("ParsePolynomial(%q) = %v, %d", text, p, code)
		}
	}
	for _, part := range []string{"t", "+", "-", "1", "t+", "+t", "^", "t^2000+", "9"} {
		if p, code := impl.ParsePolynomial(strings.Repeat(part, 100000)); len(p) != 0 || code != impl.ErrSyntax {
			t.Errorf("ParsePolynomial of many %q = %v, %d", part, p, code)
		}
	}
}

var textPattern = regexp.MustCompile(`[+-]?[^+-]*`)

var termPattern = regexp.MustCompile(`^([+-]?)([1-9][0-9]{0,8})?(t(?:\^([1-9][0-9]{0,3}))?)?$`)

// grammarReads tells by the grammar of terms whether a text is that of a polynomial.
func grammarReads(text string) bool {
	if text == "0" {
		return true
	}
	before := mostDegree + 1
	for i, term := range textPattern.FindAllString(text, -1) {
		m := termPattern.FindStringSubmatch(term)
		if m == nil || m[2] == "" && m[3] == "" || (i == 0) == (m[1] == "+") && m[1] != "-" {
			return false
		}
		k := 0
		if m[3] != "" {
			k = 1
		}
		if m[4] != "" {
			k, _ = strconv.Atoi(m[4])
		}
		if k >= before || m[4] == "1" || m[3] != "" && m[2] == "1" {
			return false
		}
		before = k
	}
	return text != ""
}

// TestShortTexts parses all short texts of the characters of polynomials, and of one other.
func TestShortTexts(t *testing.T) {
	read := 0
	var extend func(text string)
	extend = func(text string) {
		p, code := impl.ParsePolynomial(text)
		switch {
		case grammarReads(text):
			read++
			if back, _ := impl.PolynomialText(p); back != text || code != impl.ErrNone {
				t.Errorf("ParsePolynomial(%q) = %v, %d", text, p, code)
			}
		case len(p) != 0 || code != impl.ErrSyntax:
			t.Errorf("ParsePolynomial(%q) = %v, %d", text, p, code)
		}
		if len(text) < 6 {
			for _, r := range "t^+-012x" {
				extend(text + string(r))
			}
		}
	}
	extend("")
	if read < 1000 {
		t.Errorf("only %d texts are polynomials", read)
	}
}
