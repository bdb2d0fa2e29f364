package tests

import (
	"fmt"
	"math"
	"math/big"
	"math/rand"
	"regexp"
	"slices"
	"strings"
	"sync"
	"testing"

	"loop.example/g00885/impl"
)

const mostScale, mostNum = int64(1000000000000000), int64(1000000000000000000)

func exact(num, depth int64) impl.Exact { return impl.Exact{Num: num, Depth: depth} }

func exacts(numbers ...impl.Exact) []impl.Exact { return numbers }

// diced has dice of a number of sides; the other fields do not matter here.
func diced(sides int64) impl.Variant { return variant(24, 15, 6, sides) }

// exactVariants has one variant for each number of sides.
func exactVariants() []impl.Variant {
	return []impl.Variant{diced(1), diced(2), diced(3), diced(4), diced(5), diced(6)}
}

// greatestDepth is by a separate calculation the greatest depth of a valid number.
func greatestDepth(sides int64) int64 { return [7]int64{0, 0, 24, 15, 12, 10, 9}[sides] }

// scaleByRule returns the power of the base, which for a great depth is beyond every limit.
func scaleByRule(sides, depth int64) *big.Int {
	return new(big.Int).Exp(big.NewInt(sides*sides), big.NewInt(min(depth, 100)), nil)
}

func isExactByRule(sides int64, x impl.Exact) bool {
	if x.Depth < 0 || scaleByRule(sides, x.Depth).Cmp(big.NewInt(mostScale)) > 0 {
		return false
	}
	if x.Num > mostNum || x.Num < -mostNum {
		return false
	}
	return x.Depth == 0 || sides > 1 && x.Num%(sides*sides) != 0
}

func ratioOf(sides int64, x impl.Exact) *big.Rat {
	return new(big.Rat).SetFrac(big.NewInt(x.Num), scaleByRule(sides, x.Depth))
}

// exactByRule returns the valid number that stands for a ratio: it has the smallest scale by which
// the ratio becomes an integer.
func exactByRule(sides int64, ratio *big.Rat) (impl.Exact, int64) {
	for depth := int64(0); depth <= greatestDepth(sides); depth++ {
		num := new(big.Rat).SetInt(scaleByRule(sides, depth))
		if num.Mul(num, ratio).IsInt() {
			if num.Num().CmpAbs(big.NewInt(mostNum)) > 0 {
				break
			}
			return exact(num.Num().Int64(), depth), impl.ErrNone
		}
	}
	return impl.Exact{}, impl.ErrLimit
}

func sumByRule(sides int64, x, y impl.Exact) (impl.Exact, int64) {
	return exactByRule(sides, new(big.Rat).Add(ratioOf(sides, x), ratioOf(sides, y)))
}

func scaledByRule(sides int64, x impl.Exact, k int64) (impl.Exact, int64) {
	return exactByRule(sides, new(big.Rat).Mul(ratioOf(sides, x), big.NewRat(k, 1)))
}

func meanByRule(v impl.Variant, values []impl.Exact) (impl.Exact, int64) {
	var sum impl.Exact
	for i, r := range rollsByRule(v) {
		weight := int64(2)
		if r.A == r.B {
			weight = 1
		}
		weighted, code := scaledByRule(v.Sides, values[i], weight)
		if code != impl.ErrNone {
			return impl.Exact{}, code
		}
		if sum, code = sumByRule(v.Sides, sum, weighted); code != impl.ErrNone {
			return impl.Exact{}, code
		}
	}
	return exactByRule(v.Sides, new(big.Rat).Quo(ratioOf(v.Sides, sum), big.NewRat(v.Sides*v.Sides, 1)))
}

func millionthsByRule(sides int64, x impl.Exact) (int64, int64) {
	ratio := ratioOf(sides, x)
	if new(big.Rat).Abs(ratio).Cmp(big.NewRat(1000, 1)) > 0 {
		return 0, impl.ErrLimit
	}
	ratio.Mul(ratio, big.NewRat(1000000, 1))
	// Div rounds down, since the denominator is positive.
	return new(big.Int).Div(ratio.Num(), ratio.Denom()).Int64(), impl.ErrNone
}

// numsOf has integers near 0, near the limit, and near the powers of the base and their multiples.
func numsOf(sides int64) []int64 {
	var nums []int64
	around := func(middle, width int64) {
		for n := middle - width; n <= middle+width; n++ {
			nums = append(nums, n, -n)
		}
	}
	around(0, 40)
	around(mostNum, 40)
	for depth := int64(1); depth <= greatestDepth(sides); depth++ {
		scale := scaleByRule(sides, depth).Int64()
		around(scale, 1)
		around(500*scale, 1)
		around(1000*scale, 1)
		around(mostNum/scale, 1)
	}
	slices.Sort(nums)
	return slices.Compact(nums)
}

// randomExact returns a valid number of any depth and magnitude.
func randomExact(rnd *rand.Rand, sides int64) impl.Exact {
	for {
		x := exact(rnd.Int63()>>rnd.Intn(63), rnd.Int63n(greatestDepth(sides)+1))
		if rnd.Intn(2) == 0 {
			x.Num = -x.Num
		}
		if isExactByRule(sides, x) {
			return x
		}
	}
}

// exactsOf has the numbers 0 and 1, numbers of each depth near the limits and others, and random ones.
func exactsOf(sides int64) []impl.Exact {
	var numbers []impl.Exact
	base := sides * sides
	for depth := int64(0); depth <= greatestDepth(sides); depth++ {
		scale := scaleByRule(sides, depth).Int64()
		for _, num := range list(0, 1, 2, 3, sides, base-1, base, base+1, scale-1, scale, scale+1, 1000*scale-1, 1000*scale,
			1000*scale+1, 333333333333333333, mostNum-3, mostNum-2, mostNum-1, mostNum) {
			numbers = append(numbers, exact(num, depth), exact(-num, depth))
		}
	}
	numbers = slices.DeleteFunc(numbers, func(x impl.Exact) bool { return !isExactByRule(sides, x) })
	rnd := rand.New(rand.NewSource(9))
	for range 100 {
		numbers = append(numbers, randomExact(rnd, sides))
	}
	return numbers
}

// noExacts has numbers that are not valid: they miss one limit by one or by far, or can be divided.
func noExacts(sides int64) []impl.Exact {
	base, deep := sides*sides, greatestDepth(sides)
	numbers := exacts(exact(mostNum+1, 0), exact(-mostNum-1, 0), exact(math.MaxInt64, 0), exact(math.MinInt64, 0),
		exact(0, 1), exact(base, 1), exact(-base, 1), exact(-5*base, 1), exact(base*base, 1), exact(base*base, 2), exact(0, deep+1),
		exact(1, deep+1), exact(-1, deep+1), exact(1, 60), exact(1, 61), exact(1, 64), exact(1, 1<<32), exact(1, math.MaxInt64),
		exact(0, -1), exact(1, -1), exact(base, -1), exact(1, math.MinInt64), exact(math.MinInt64, math.MinInt64),
		exact(math.MinInt64, 1), exact(mostNum+1, 1), exact(-mostNum-1, 1), exact(mostNum+1, -1), exact(math.MaxInt64, deep+1))
	if sides == 1 {
		numbers = append(numbers, exact(1, 1), exact(-7, 2), exact(mostNum, 60))
	}
	return numbers
}

func TestLimitsOfExactNumbers(t *testing.T) {
	if limits := [2]int64{impl.MaxScale, impl.MaxNum}; limits != [2]int64{mostScale, mostNum} {
		t.Error(limits)
	}
}

func TestValidExactNumbers(t *testing.T) {
	for _, v := range diceVariants() {
		depths := append(strangeNumbers(), -36, -4)
		for depth := int64(-3); depth <= 66; depth++ {
			depths = append(depths, depth)
		}
		for _, num := range append(strangeNumbers(), numsOf(v.Sides)...) {
			for _, depth := range depths {
				x := exact(num, depth)
				if got := impl.IsExact(v, x); got != isExactByRule(v.Sides, x) {
					t.Errorf("%v: %v is valid: %t", v, x, got)
				}
			}
		}
	}
}

func TestInvalidExactNumbers(t *testing.T) {
	for _, v := range diceVariants() {
		for _, x := range noExacts(v.Sides) {
			if impl.IsExact(v, x) {
				t.Errorf("%v: %v is valid", v, x)
			}
		}
	}
}

func TestExactNumbersOfAllVariants(t *testing.T) {
	eachVariant(func(v impl.Variant) {
		valid := [3]bool{impl.IsExact(v, exact(-1, 0)), impl.IsExact(v, exact(1, 1)), impl.IsExact(v, exact(v.Sides*v.Sides, 1))}
		if valid != [3]bool{true, v.Sides > 1, false} {
			t.Errorf("%v: %v", v, valid)
		}
	})
}

// checkExact compares what a function has returned with what the document requires.
func checkExact(t *testing.T, v impl.Variant, what string, got impl.Exact, code int64, want impl.Exact, wantCode int64) {
	t.Helper()
	if got != want || code != wantCode {
		t.Errorf("%v: %s is %v, code %d, not %v, code %d", v, what, got, code, want, wantCode)
	}
}

func checkMake(t *testing.T, v impl.Variant, num, depth int64, want impl.Exact, wantCode int64) {
	t.Helper()
	x, code := impl.MakeExact(v, num, depth)
	checkExact(t, v, fmt.Sprintf("%d of the depth %d", num, depth), x, code, want, wantCode)
}

func checkSum(t *testing.T, v impl.Variant, x, y, want impl.Exact, wantCode int64) {
	t.Helper()
	sum, code := impl.AddExact(v, x, y)
	checkExact(t, v, fmt.Sprintf("%v + %v", x, y), sum, code, want, wantCode)
	sum, code = impl.AddExact(v, y, x)
	checkExact(t, v, fmt.Sprintf("%v + %v", y, x), sum, code, want, wantCode)
}

func checkScaled(t *testing.T, v impl.Variant, x impl.Exact, k int64, want impl.Exact, wantCode int64) {
	t.Helper()
	y, code := impl.ScaleExact(v, x, k)
	checkExact(t, v, fmt.Sprintf("%v * %d", x, k), y, code, want, wantCode)
}

func checkOrder(t *testing.T, v impl.Variant, x, y impl.Exact, want, wantCode int64) {
	t.Helper()
	if order, code := impl.CompareExact(v, x, y); order != want || code != wantCode {
		t.Errorf("%v: %v and %v: %d, code %d, not %d, code %d", v, x, y, order, code, want, wantCode)
	}
}

func checkMean(t *testing.T, v impl.Variant, values []impl.Exact, want impl.Exact, wantCode int64) {
	t.Helper()
	mean, code := impl.MeanExact(v, values)
	checkExact(t, v, fmt.Sprintf("the mean of %v", values), mean, code, want, wantCode)
}

func checkMillionths(t *testing.T, v impl.Variant, x impl.Exact, want, wantCode int64) {
	t.Helper()
	if n, code := impl.MillionthsOf(v, x); n != want || code != wantCode {
		t.Errorf("%v: millionths of %v: %d, code %d, not %d, code %d", v, x, n, code, want, wantCode)
	}
}

func TestMadeNumbers(t *testing.T) {
	for _, v := range exactVariants() {
		for _, num := range append(strangeNumbers(), numsOf(v.Sides)...) {
			for depth := int64(-2); depth <= 62; depth++ {
				want, code := impl.Exact{}, int64(impl.ErrRange)
				power := scaleByRule(v.Sides, max(depth, 0))
				if num <= mostNum && num >= -mostNum && depth >= 0 && depth <= 60 && power.Cmp(big.NewInt(mostScale)) <= 0 {
					want, code = exactByRule(v.Sides, new(big.Rat).SetFrac(big.NewInt(num), power))
				}
				checkMake(t, v, num, depth, want, code)
			}
		}
	}
}

func TestExamplesOfMadeNumbers(t *testing.T) {
	full := impl.FullVariant()
	checkMake(t, full, 72, 1, exact(2, 0), impl.ErrNone)
	checkMake(t, full, 72, 3, exact(2, 2), impl.ErrNone)
	checkMake(t, full, -1296, 9, exact(-1, 7), impl.ErrNone)
	checkMake(t, full, 0, 9, exact(0, 0), impl.ErrNone)
	checkMake(t, full, 36, 0, exact(36, 0), impl.ErrNone)
	checkMake(t, full, mostNum, 9, exact(mostNum, 9), impl.ErrNone)
	checkMake(t, full, 999999999999999936, 1, exact(27777777777777776, 0), impl.ErrNone)
	checkMake(t, diced(1), -5, 60, exact(-5, 0), impl.ErrNone)
	checkMake(t, diced(1), mostNum, 1, exact(mostNum, 0), impl.ErrNone)
	checkMake(t, diced(2), mostNum, 24, exact(mostNum>>18, 15), impl.ErrNone)
}

func TestLimitsOfMadeNumbers(t *testing.T) {
	for _, v := range diceVariants() {
		deep := greatestDepth(v.Sides)
		if v.Sides > 1 {
			checkMake(t, v, 1, deep, exact(1, deep), impl.ErrNone)
			// The power is too large, although the quotient would be 0 or 1.
			checkMake(t, v, 0, deep+1, impl.Exact{}, impl.ErrRange)
			checkMake(t, v, scaleByRule(v.Sides, deep+1).Int64(), deep+1, impl.Exact{}, impl.ErrRange)
		}
		for _, depth := range list(-1, 61, 64, 1<<32, math.MaxInt64, math.MinInt64) {
			checkMake(t, v, 0, depth, impl.Exact{}, impl.ErrRange)
		}
		for _, num := range list(mostNum+1, -mostNum-1, math.MaxInt64, math.MinInt64) {
			checkMake(t, v, num, 0, impl.Exact{}, impl.ErrRange)
			checkMake(t, v, num, 1, impl.Exact{}, impl.ErrRange)
		}
	}
}

// partners returns numbers whose sums with x have, at some depth, a Num near the limit or near 0.
func partners(sides int64, x impl.Exact) []impl.Exact {
	var numbers []impl.Exact
	for depth := int64(0); depth <= greatestDepth(sides); depth++ {
		for _, num := range list(mostNum-1, mostNum, mostNum+1, 1, 0) {
			for _, sign := range list(1, -1) {
				ratio := ratioOf(sides, exact(sign*num, depth))
				if y, code := exactByRule(sides, ratio.Sub(ratio, ratioOf(sides, x))); code == impl.ErrNone {
					numbers = append(numbers, y)
				}
			}
		}
	}
	return numbers
}

func TestSums(t *testing.T) {
	for _, v := range exactVariants() {
		rnd := rand.New(rand.NewSource(9))
		numbers := exactsOf(v.Sides)
		codes := map[int64]int{}
		check := func(x, y impl.Exact) {
			want, code := sumByRule(v.Sides, x, y)
			checkSum(t, v, x, y, want, code)
			codes[code]++
		}
		for range 10000 {
			check(numbers[rnd.Intn(len(numbers))], numbers[rnd.Intn(len(numbers))])
		}
		for range 30 {
			x := numbers[rnd.Intn(len(numbers))]
			for _, y := range partners(v.Sides, x) {
				check(x, y)
			}
		}
		if codes[impl.ErrNone] < 1000 || codes[impl.ErrLimit] < 400 {
			t.Errorf("%v: codes %v", v, codes)
		}
	}
}

func TestExamplesOfSums(t *testing.T) {
	full := impl.FullVariant()
	checkSum(t, full, exact(1, 1), exact(1, 1), exact(2, 1), impl.ErrNone)
	checkSum(t, full, exact(35, 1), exact(1, 1), exact(1, 0), impl.ErrNone)
	checkSum(t, full, exact(1, 1), exact(-1, 1), exact(0, 0), impl.ErrNone)
	checkSum(t, full, exact(1, 1), exact(1, 2), exact(37, 2), impl.ErrNone)
	checkSum(t, full, exact(1, 0), exact(-1, 9), exact(101559956668415, 9), impl.ErrNone)
	checkSum(t, full, exact(1295, 2), exact(1, 2), exact(1, 0), impl.ErrNone)
	checkSum(t, diced(2), exact(2, 1), exact(2, 1), exact(1, 0), impl.ErrNone)
	checkSum(t, diced(1), exact(-3, 0), exact(5, 0), exact(2, 0), impl.ErrNone)
}

func TestLimitsOfSums(t *testing.T) {
	full := impl.FullVariant()
	for _, v := range exactVariants() {
		checkSum(t, v, exact(mostNum, 0), exact(1, 0), impl.Exact{}, impl.ErrLimit)
		checkSum(t, v, exact(-mostNum, 0), exact(-1, 0), impl.Exact{}, impl.ErrLimit)
		checkSum(t, v, exact(mostNum, 0), exact(mostNum, 0), impl.Exact{}, impl.ErrLimit)
		checkSum(t, v, exact(mostNum, 0), exact(0, 0), exact(mostNum, 0), impl.ErrNone)
		checkSum(t, v, exact(mostNum-1, 0), exact(1, 0), exact(mostNum, 0), impl.ErrNone)
		checkSum(t, v, exact(-mostNum, 0), exact(mostNum, 0), exact(0, 0), impl.ErrNone)
	}
	// Both sums of numerators exceed the limit; the first one can be divided.
	checkSum(t, full, exact(999999999999999999, 5), exact(999999999999999981, 5), exact(55555555555555555, 4), impl.ErrNone)
	checkSum(t, full, exact(999999999999999999, 5), exact(999999999999999980, 5), impl.Exact{}, impl.ErrLimit)
	// In a common scale the first number exceeds the limit, and the second one brings it back.
	checkSum(t, full, exact(30000000000000000, 1), exact(-80000000000000001, 2), exact(999999999999999999, 2), impl.ErrNone)
	checkSum(t, full, exact(55000000000000000, 1), exact(-980000000000000001, 2), exact(999999999999999999, 2), impl.ErrNone)
	checkSum(t, full, exact(55555555555555555, 1), exact(-999999999999999999, 2), exact(999999999999999981, 2), impl.ErrNone)
	checkSum(t, full, exact(55555555555555556, 1), exact(-999999999999999999, 2), impl.Exact{}, impl.ErrLimit)
	// In a common scale these exceed 64 and 63 bits.
	checkSum(t, full, exact(mostNum, 0), exact(1, 9), impl.Exact{}, impl.ErrLimit)
	checkSum(t, full, exact(512409557603043101, 0), exact(-1, 1), impl.Exact{}, impl.ErrLimit)
	checkSum(t, full, exact(256204778801521551, 0), exact(-1, 1), impl.Exact{}, impl.ErrLimit)
}

// TestSumsOfSums checks rules that hold for all numbers without a limit.
func TestSumsOfSums(t *testing.T) {
	for _, v := range exactVariants() {
		rnd := rand.New(rand.NewSource(10))
		whole := 0
		for range 3000 {
			x, y := randomExact(rnd, v.Sides), randomExact(rnd, v.Sides)
			sum, code := impl.AddExact(v, x, y)
			if code != impl.ErrNone {
				continue
			}
			whole++
			checkSum(t, v, sum, exact(-y.Num, y.Depth), x, impl.ErrNone)
			checkSum(t, v, sum, exact(-x.Num, x.Depth), y, impl.ErrNone)
			if !impl.IsExact(v, sum) {
				t.Errorf("%v: %v + %v is %v", v, x, y, sum)
			}
		}
		if whole < 500 {
			t.Errorf("%v: %d sums", v, whole)
		}
	}
}

// factors are those at the limits and near the powers of the base, and others.
func factors(sides int64) []int64 {
	factors := list(0, 1, 2, 3, 5, 6, 7, 12, 100, 512, 729, 768, 972, 998, 999, 1000)
	for power := int64(1); sides > 1 && power <= 1000; power *= sides * sides {
		factors = append(factors, power-1, power, min(power+1, 1000), 1000/power*power)
	}
	return factors
}

func TestProducts(t *testing.T) {
	for _, v := range exactVariants() {
		codes := map[int64]int{}
		for _, x := range exactsOf(v.Sides) {
			for _, factor := range factors(v.Sides) {
				for _, k := range list(factor, -factor) {
					want, code := scaledByRule(v.Sides, x, k)
					checkScaled(t, v, x, k, want, code)
					codes[code]++
				}
			}
		}
		if codes[impl.ErrNone] < 1000 || codes[impl.ErrLimit] < 400 {
			t.Errorf("%v: codes %v", v, codes)
		}
	}
}

func TestAllFactors(t *testing.T) {
	for _, v := range exactVariants() {
		deep := greatestDepth(v.Sides)
		for _, x := range exacts(exact(1, deep), exact(-mostNum/1000, 0), exact(999999999999999998, deep), exact(-7, min(deep, 1))) {
			for k := int64(-1000); k <= 1000; k++ {
				want, code := scaledByRule(v.Sides, x, k)
				checkScaled(t, v, x, k, want, code)
			}
		}
	}
}

func TestExamplesOfProducts(t *testing.T) {
	full := impl.FullVariant()
	checkScaled(t, full, exact(1, 1), -2, exact(-2, 1), impl.ErrNone)
	checkScaled(t, full, exact(1, 1), 36, exact(1, 0), impl.ErrNone)
	checkScaled(t, full, exact(18, 5), 2, exact(1, 4), impl.ErrNone)
	checkScaled(t, full, exact(4, 2), 972, exact(3, 0), impl.ErrNone)
	checkScaled(t, full, exact(-5, 3), 0, exact(0, 0), impl.ErrNone)
	checkScaled(t, full, exact(0, 0), -1000, exact(0, 0), impl.ErrNone)
	checkScaled(t, full, exact(-5, 3), -1, exact(5, 3), impl.ErrNone)
	checkScaled(t, full, exact(36, 0), 36, exact(1296, 0), impl.ErrNone)
	// The products exceed 63 or 64 bits, until they are divided once or several times.
	checkScaled(t, full, exact(999999999999999999, 9), 36, exact(999999999999999999, 8), impl.ErrNone)
	checkScaled(t, full, exact(-999999999999999999, 9), 4, exact(-111111111111111111, 8), impl.ErrNone)
	checkScaled(t, full, exact(999999999999999999, 9), 12, exact(333333333333333333, 8), impl.ErrNone)
	checkScaled(t, full, exact(999999999999999988, 9), -972, exact(-749999999999999991, 7), impl.ErrNone)
	checkScaled(t, diced(2), exact(999999999999999998, 24), 512, exact(499999999999999999, 19), impl.ErrNone)
	checkScaled(t, diced(2), exact(999999999999999998, 4), 512, impl.Exact{}, impl.ErrLimit)
	checkScaled(t, diced(2), exact(999999999999999998, 5), 512, exact(499999999999999999, 0), impl.ErrNone)
}

func TestLimitsOfProducts(t *testing.T) {
	for _, v := range exactVariants() {
		checkScaled(t, v, exact(mostNum/1000, 0), 1000, exact(mostNum, 0), impl.ErrNone)
		checkScaled(t, v, exact(mostNum/1000, 0), -1000, exact(-mostNum, 0), impl.ErrNone)
		checkScaled(t, v, exact(mostNum/1000+1, 0), 1000, impl.Exact{}, impl.ErrLimit)
		checkScaled(t, v, exact(mostNum/1000+1, 0), -1000, impl.Exact{}, impl.ErrLimit)
		checkScaled(t, v, exact(mostNum, 0), 1, exact(mostNum, 0), impl.ErrNone)
		checkScaled(t, v, exact(mostNum, 0), 2, impl.Exact{}, impl.ErrLimit)
		checkScaled(t, v, exact(mostNum, 0), 1000, impl.Exact{}, impl.ErrLimit)
		// This product is 200 more than a multiple of the power of 2 with the exponent 64.
		checkScaled(t, v, exact(922337203685477581, 0), 1000, impl.Exact{}, impl.ErrLimit)
		for _, k := range list(1001, -1001, 1<<32, math.MaxInt64, math.MinInt64) {
			checkScaled(t, v, exact(0, 0), k, impl.Exact{}, impl.ErrRange)
			checkScaled(t, v, exact(mostNum, 0), k, impl.Exact{}, impl.ErrRange)
		}
	}
}

// TestProductsAreSums adds a number as often as it is multiplied.
func TestProductsAreSums(t *testing.T) {
	for _, v := range exactVariants() {
		for _, x := range exacts(exact(1, 0), exact(-3, min(greatestDepth(v.Sides), 2)), exact(7, greatestDepth(v.Sides))) {
			sum, code := impl.Exact{}, int64(impl.ErrNone)
			for k := int64(1); k <= 1000; k++ {
				if sum, code = impl.AddExact(v, sum, x); code != impl.ErrNone {
					t.Fatalf("%v: %v added %d times: code %d", v, x, k, code)
				}
				checkScaled(t, v, x, k, sum, impl.ErrNone)
			}
		}
	}
}

func TestOrder(t *testing.T) {
	for _, v := range exactVariants() {
		rnd := rand.New(rand.NewSource(11))
		numbers := exactsOf(v.Sides)
		check := func(x, y impl.Exact) {
			want := int64(ratioOf(v.Sides, x).Cmp(ratioOf(v.Sides, y)))
			checkOrder(t, v, x, y, want, impl.ErrNone)
			checkOrder(t, v, y, x, -want, impl.ErrNone)
		}
		for _, x := range numbers {
			check(x, x)
			check(x, exact(-x.Num, x.Depth))
			for range 20 {
				check(x, numbers[rnd.Intn(len(numbers))])
			}
		}
		// Numbers that differ by as little as their depths allow.
		for range 200 {
			x := numbers[rnd.Intn(len(numbers))]
			for depth := int64(0); depth <= greatestDepth(v.Sides); depth++ {
				for _, num := range list(1, -1) {
					if y, code := sumByRule(v.Sides, x, exact(num, depth)); code == impl.ErrNone {
						check(x, y)
					}
				}
			}
		}
	}
}

func TestExamplesOfOrder(t *testing.T) {
	full := impl.FullVariant()
	checkOrder(t, full, exact(1, 1), exact(2, 1), -1, impl.ErrNone)
	checkOrder(t, full, exact(35, 1), exact(1259, 2), 1, impl.ErrNone)
	checkOrder(t, full, exact(35, 1), exact(1261, 2), -1, impl.ErrNone)
	checkOrder(t, full, exact(-1, 9), exact(0, 0), -1, impl.ErrNone)
	checkOrder(t, full, exact(1, 9), exact(0, 0), 1, impl.ErrNone)
	checkOrder(t, full, exact(-1, 1), exact(-1, 2), -1, impl.ErrNone)
	checkOrder(t, full, exact(mostNum, 0), exact(mostNum, 9), 1, impl.ErrNone)
	checkOrder(t, full, exact(-mostNum, 0), exact(-mostNum, 9), -1, impl.ErrNone)
	checkOrder(t, full, exact(mostNum, 0), exact(-mostNum, 0), 1, impl.ErrNone)
	checkOrder(t, full, exact(mostNum, 9), exact(mostNum, 9), 0, impl.ErrNone)
	checkOrder(t, full, exact(0, 0), exact(0, 0), 0, impl.ErrNone)
}

// valuesOf returns random values for all rolls: small ones, mostly chances, or any.
func valuesOf(rnd *rand.Rand, v impl.Variant) []impl.Exact {
	values := make([]impl.Exact, len(rollsByRule(v)))
	kind, depth := rnd.Intn(3), rnd.Int63n(greatestDepth(v.Sides)+1)
	for i := range values {
		switch kind {
		case 0:
			values[i] = exact(rnd.Int63n(5)-2, 0)
		case 1:
			num := big.NewInt(rnd.Int63n(scaleByRule(v.Sides, depth).Int64() + 1))
			values[i], _ = exactByRule(v.Sides, new(big.Rat).SetFrac(num, scaleByRule(v.Sides, depth)))
		default:
			values[i] = randomExact(rnd, v.Sides)
		}
	}
	return values
}

func TestMeans(t *testing.T) {
	for _, v := range exactVariants() {
		rnd := rand.New(rand.NewSource(12))
		codes := map[int64]int{}
		for range 1500 {
			values := valuesOf(rnd, v)
			want, code := meanByRule(v, values)
			checkMean(t, v, values, want, code)
			codes[code]++
		}
		if codes[impl.ErrNone] < 500 || v.Sides > 1 && codes[impl.ErrLimit] < 100 {
			t.Errorf("%v: codes %v", v, codes)
		}
	}
}

// TestMeansOfOneRoll has the value 1 for one roll only: the mean is the weight of the roll.
func TestMeansOfOneRoll(t *testing.T) {
	for _, v := range diceVariants() {
		for i, r := range rollsByRule(v) {
			values := make([]impl.Exact, len(rollsByRule(v)))
			values[i] = exact(1, 0)
			want, code := impl.MakeExact(v, impl.RollWeight(v, r), 1)
			if code != impl.ErrNone {
				t.Fatalf("%v: %v: code %d", v, r, code)
			}
			checkMean(t, v, values, want, impl.ErrNone)
		}
	}
}

func TestMeansOfEqualValues(t *testing.T) {
	for _, v := range exactVariants() {
		for _, x := range exacts(exact(0, 0), exact(1, 0), exact(-5, 0), exact(1, greatestDepth(v.Sides)), exact(-3, min(greatestDepth(v.Sides), 1))) {
			checkMean(t, v, slices.Repeat(exacts(x), len(rollsByRule(v))), x, impl.ErrNone)
		}
	}
}

func TestExamplesOfMeans(t *testing.T) {
	two := diced(2)
	checkMean(t, two, exacts(exact(0, 0), exact(1, 0), exact(0, 0)), exact(2, 1), impl.ErrNone)
	checkMean(t, two, exacts(exact(1, 0), exact(0, 0), exact(0, 0)), exact(1, 1), impl.ErrNone)
	checkMean(t, two, exacts(exact(4, 0), exact(-4, 0), exact(8, 0)), exact(1, 0), impl.ErrNone)
	checkMean(t, two, exacts(exact(1, 1), exact(1, 1), exact(2, 1)), exact(5, 2), impl.ErrNone)
	checkMean(t, diced(3), exacts(exact(1, 0), exact(2, 0), exact(3, 0), exact(4, 0), exact(5, 0), exact(6, 0)), exact(32, 1), impl.ErrNone)
	checkMean(t, diced(1), exacts(exact(-7, 0)), exact(-7, 0), impl.ErrNone)
	checkMean(t, diced(1), exacts(exact(mostNum, 0)), exact(mostNum, 0), impl.ErrNone)
}

func TestLimitsOfMeans(t *testing.T) {
	two := diced(2)
	// A product exceeds the limit, although the mean would not.
	checkMean(t, two, exacts(exact(0, 0), exact(mostNum, 0), exact(0, 0)), impl.Exact{}, impl.ErrLimit)
	checkMean(t, two, exacts(exact(0, 0), exact(mostNum/2, 0), exact(0, 0)), exact(mostNum/4, 0), impl.ErrNone)
	checkMean(t, two, exacts(exact(-mostNum, 0), exact(mostNum/2+1, 0), exact(0, 0)), impl.Exact{}, impl.ErrLimit)
	// A product exceeds the limit until it is divided.
	checkMean(t, two, exacts(exact(0, 0), exact(999999999999999998, 24), exact(0, 0)), exact(499999999999999999, 24), impl.ErrNone)
	// A sum exceeds the limit, although the last one would not.
	checkMean(t, two, exacts(exact(mostNum, 0), exact(1, 0), exact(-2, 0)), impl.Exact{}, impl.ErrLimit)
	checkMean(t, two, exacts(exact(-2, 0), exact(1, 0), exact(mostNum, 0)), exact(mostNum/4, 0), impl.ErrNone)
	checkMean(t, two, exacts(exact(1, 0), exact(0, 0), exact(mostNum, 0)), impl.Exact{}, impl.ErrLimit)
	checkMean(t, two, exacts(exact(1, 24), exact(mostNum/2, 0), exact(0, 0)), impl.Exact{}, impl.ErrLimit)
	checkMean(t, two, exacts(exact(mostNum-1, 0), exact(0, 0), exact(0, 0)), exact(mostNum-1, 1), impl.ErrNone)
	// The mean, or only a sum, would need a greater depth.
	checkMean(t, two, exacts(exact(1, 24), exact(0, 0), exact(0, 0)), impl.Exact{}, impl.ErrLimit)
	checkMean(t, two, exacts(exact(1, 24), exact(1, 24), exact(1, 24)), exact(1, 24), impl.ErrNone)
	checkMean(t, two, exacts(exact(2, 24), exact(0, 0), exact(2, 24)), exact(1, 24), impl.ErrNone)
	checkMean(t, two, exacts(exact(1, 23), exact(0, 0), exact(0, 0)), exact(1, 24), impl.ErrNone)
}

func TestNumbersOfValues(t *testing.T) {
	for _, v := range exactVariants() {
		kinds := len(rollsByRule(v))
		for _, n := range []int{0, 1, kinds - 1, kinds + 1, int(v.Sides * v.Sides), 2 * kinds, 1000} {
			if n != kinds {
				checkMean(t, v, make([]impl.Exact, n), impl.Exact{}, impl.ErrRange)
				checkMean(t, v, slices.Repeat(exacts(exact(mostNum, 0)), n), impl.Exact{}, impl.ErrRange)
			}
		}
		checkMean(t, v, nil, impl.Exact{}, impl.ErrRange)
		checkMean(t, v, make([]impl.Exact, kinds), impl.Exact{}, impl.ErrNone)
	}
}

// TestValuesAreNotChanged looks at the values and at what lies behind them.
func TestValuesAreNotChanged(t *testing.T) {
	full := impl.FullVariant()
	values := make([]impl.Exact, 21, 40)
	for i := range values[:40] {
		values[:40][i] = exact(int64(i), 0)
	}
	want := slices.Clone(values[:40])
	mean, code := impl.MeanExact(full, values)
	if code != impl.ErrNone || !slices.Equal(values[:40], want) {
		t.Errorf("%v, code %d", values[:40], code)
	}
	checkMean(t, full, values, mean, impl.ErrNone)
}

func textByRule(sides int64, x impl.Exact) string {
	if x.Depth == 0 {
		return fmt.Sprint(x.Num)
	}
	return fmt.Sprintf("%d/%d", x.Num, scaleByRule(sides, x.Depth))
}

var exactPattern = regexp.MustCompile(`^(0|-?[1-9][0-9]{0,18})(/([1-9][0-9]{0,15}))?$`)

// readExactByRule finds the parts of a text and the depth of its scale.
func readExactByRule(sides int64, text string) (impl.Exact, bool) {
	parts := exactPattern.FindStringSubmatch(text)
	if parts == nil || strings.HasSuffix(text, "\n") {
		return impl.Exact{}, false
	}
	num, _ := new(big.Int).SetString(parts[1], 10)
	if !num.IsInt64() {
		return impl.Exact{}, false
	}
	x := exact(num.Int64(), 0)
	for parts[3] != "" && scaleByRule(sides, x.Depth).String() != parts[3] || parts[3] == "1" {
		if x.Depth++; x.Depth > 100 {
			return impl.Exact{}, false
		}
	}
	if !isExactByRule(sides, x) {
		return impl.Exact{}, false
	}
	return x, true
}

func checkReadExact(t *testing.T, v impl.Variant, text string) {
	t.Helper()
	want, wantOk := readExactByRule(v.Sides, text)
	if x, ok := impl.ReadExact(v, text); x != want || ok != wantOk {
		t.Errorf("%v: %.60q is read as %v, %t, not %v, %t", v, text, x, ok, want, wantOk)
	}
}

func refuseExactText(t *testing.T, v impl.Variant, text string) {
	t.Helper()
	if x, ok := impl.ReadExact(v, text); ok || x != (impl.Exact{}) {
		t.Errorf("%v: %.60q is read as %v, %t", v, text, x, ok)
	}
}

func checkExactText(t *testing.T, v impl.Variant, x impl.Exact, want string) {
	t.Helper()
	if text := impl.ExactText(v, x); text != want {
		t.Errorf("%v: %v has the text %q, not %q", v, x, text, want)
	}
	if got, ok := impl.ReadExact(v, want); !ok || got != x {
		t.Errorf("%v: %q is read as %v, %t, not %v", v, want, got, ok, x)
	}
}

func TestExactNumbersRecovered(t *testing.T) {
	for _, v := range exactVariants() {
		for _, x := range exactsOf(v.Sides) {
			checkExactText(t, v, x, textByRule(v.Sides, x))
		}
	}
}

func TestExamplesOfExactTexts(t *testing.T) {
	full := impl.FullVariant()
	checkExactText(t, full, exact(-5, 2), "-5/1296")
	checkExactText(t, full, exact(0, 0), "0")
	checkExactText(t, full, exact(36, 0), "36")
	checkExactText(t, full, exact(-mostNum, 9), "-1000000000000000000/101559956668416")
	checkExactText(t, diced(1), exact(mostNum, 0), "1000000000000000000")
	checkExactText(t, diced(2), exact(2, 1), "2/4")
	checkExactText(t, diced(2), exact(1, 24), "1/281474976710656")
	checkExactText(t, diced(3), exact(3, 1), "3/9")
	checkExactText(t, diced(3), exact(10, 15), "10/205891132094649")
	checkExactText(t, diced(4), exact(-1, 12), "-1/281474976710656")
	checkExactText(t, diced(5), exact(26, 10), "26/95367431640625")
}

func TestTextsOfInvalidExactNumbers(t *testing.T) {
	for _, v := range exactVariants() {
		for _, x := range noExacts(v.Sides) {
			if text := impl.ExactText(v, x); text != "" {
				t.Errorf("%v: %v has the text %q", v, x, text)
			}
			if x.Depth >= 0 {
				refuseExactText(t, v, fmt.Sprintf("%d/%d", x.Num, scaleByRule(v.Sides, x.Depth)))
			}
		}
	}
}

func TestChangedExactTexts(t *testing.T) {
	for _, v := range exactVariants() {
		for _, x := range exacts(exact(0, 0), exact(-12, 0), exact(mostNum, 0), exact(35, 1), exact(-1, 2), exact(7, greatestDepth(v.Sides))) {
			if isExactByRule(v.Sides, x) {
				eachChange(textByRule(v.Sides, x), allBytes(), func(s string) { checkReadExact(t, v, s) })
			}
		}
	}
}

// TestAllShortExactTexts reads all texts of up to five of some bytes.
func TestAllShortExactTexts(t *testing.T) {
	for _, v := range []impl.Variant{diced(1), diced(2), diced(6)} {
		texts := []string{""}
		for range 5 {
			var longer []string
			for _, text := range texts {
				checkReadExact(t, v, text)
				for _, c := range "01346/-" {
					longer = append(longer, text+string(c))
				}
			}
			texts = longer
		}
		for _, text := range texts {
			checkReadExact(t, v, text)
		}
	}
}

func TestTextsOfNoExactNumber(t *testing.T) {
	for _, v := range exactVariants() {
		for _, text := range []string{
			"", "-", "/", "-/", "//", "/1", "/36", "1/", "1//36", "1/36/", "/1/36", "1/36/36", "1/1", "5/1", "0/1", "0/36", "0/4", "36/36",
			"72/36", "-36/1296", "1/35", "1/37", "1/6", "1/2", "1/0", "1/-36", "-1/-36", "1/-1", "1/+36", "+1/36", "+1", "+0", "-0", "-0/36",
			"00", "01", "-01", "007", "01/36", "1/036", "1/36 ", " 1/36", "1 /36", "1/ 36", "1\n", "\n1", "1/36\n", "1\x00", "1/36\x00", "\x001",
			"1.0", "1e2", "0x1", "0b1", "0o7", "1_000", "1,5", "1\\36", "١", "１", "1/３６", "∞", "inf", "NaN", "x", "1x", "x/36", "1/x", "--1", "1-",
			"1000000000000000001", "-1000000000000000001", "1000000000000000001/36", "9223372036854775807", "-9223372036854775808",
			"9223372036854775808", "-9223372036854775809", "18446744073709551617", "18446744073709551617/36", "1/18446744073709551652",
			"1/3656158440062976", "1/1125899906842624", "1/1853020188851841", "1/4503599627370496", "1/2384185791015625",
			"1/4738381338321616896", strings.Repeat("9", 100000), strings.Repeat("0", 100000) + "1", strings.Repeat("/", 100000),
			strings.Repeat("-", 100000), "1/" + strings.Repeat("0", 100000) + "36", "1/36" + strings.Repeat("/36", 30000), "\xff", "1/\xff",
		} {
			refuseExactText(t, v, text)
		}
	}
}

// TestTextsOfOtherVariants reads the texts of a variant for all others.
func TestTextsOfOtherVariants(t *testing.T) {
	for _, v := range exactVariants() {
		for _, x := range exactsOf(v.Sides) {
			for _, other := range exactVariants() {
				checkReadExact(t, other, textByRule(v.Sides, x))
			}
		}
	}
}

func TestMillionths(t *testing.T) {
	for _, v := range exactVariants() {
		codes := map[int64]int{}
		for _, x := range exactsOf(v.Sides) {
			want, code := millionthsByRule(v.Sides, x)
			checkMillionths(t, v, x, want, code)
			codes[code]++
		}
		for depth := int64(0); depth <= greatestDepth(v.Sides); depth++ {
			for _, num := range numsOf(v.Sides) {
				if x := exact(num, depth); isExactByRule(v.Sides, x) {
					want, code := millionthsByRule(v.Sides, x)
					checkMillionths(t, v, x, want, code)
					codes[code]++
				}
			}
		}
		if codes[impl.ErrNone] < 50 || codes[impl.ErrLimit] < 50 {
			t.Errorf("%v: codes %v", v, codes)
		}
	}
}

func TestExamplesOfMillionths(t *testing.T) {
	checkMillionths(t, diced(3), exact(3, 1), 333333, impl.ErrNone)
	checkMillionths(t, diced(3), exact(-3, 1), -333334, impl.ErrNone)
	checkMillionths(t, diced(3), exact(6, 1), 666666, impl.ErrNone)
	checkMillionths(t, diced(2), exact(-2, 1), -500000, impl.ErrNone)
	checkMillionths(t, diced(2), exact(1, 24), 0, impl.ErrNone)
	checkMillionths(t, diced(2), exact(-1, 24), -1, impl.ErrNone)
	checkMillionths(t, diced(6), exact(0, 0), 0, impl.ErrNone)
	checkMillionths(t, diced(6), exact(101559956668415, 9), 999999, impl.ErrNone)
	checkMillionths(t, diced(6), exact(-101559956668415, 9), -1000000, impl.ErrNone)
	checkMillionths(t, diced(6), exact(101559956668415999, 9), 999999999, impl.ErrNone)
}

func TestLimitsOfMillionths(t *testing.T) {
	for _, v := range exactVariants() {
		checkMillionths(t, v, exact(1000, 0), 1000000000, impl.ErrNone)
		checkMillionths(t, v, exact(-1000, 0), -1000000000, impl.ErrNone)
		for _, num := range list(1001, -1001, mostNum, -mostNum) {
			checkMillionths(t, v, exact(num, 0), 0, impl.ErrLimit)
		}
		for depth := int64(1); depth <= greatestDepth(v.Sides); depth++ {
			limit := 1000 * scaleByRule(v.Sides, depth).Int64()
			checkMillionths(t, v, exact(limit+1, depth), 0, impl.ErrLimit)
			checkMillionths(t, v, exact(-limit-1, depth), 0, impl.ErrLimit)
			checkMillionths(t, v, exact(1-limit, depth), -1000000000+1000000/(limit/1000), impl.ErrNone)
		}
	}
}

// refuseExacts checks that every function with a number returns a code for x, whatever else it is given.
func refuseExacts(t *testing.T, v impl.Variant, x impl.Exact, want int64) {
	t.Helper()
	if impl.IsExact(v, x) || impl.ExactText(v, x) != "" {
		t.Errorf("%v: %v is valid, or has the text %q", v, x, impl.ExactText(v, x))
	}
	for _, y := range exacts(x, exact(0, 0), exact(mostNum, 0), exact(0, 1)) {
		checkSum(t, v, x, y, impl.Exact{}, want)
		checkOrder(t, v, x, y, 0, want)
		checkOrder(t, v, y, x, 0, want)
	}
	for _, k := range list(0, 1, -1000, 1001, math.MinInt64) {
		checkScaled(t, v, x, k, impl.Exact{}, want)
	}
	for _, n := range []int{1, 3, 6, 10, 15, 21, 22} {
		for _, i := range []int{0, n / 2, n - 1} {
			values := slices.Repeat(exacts(exact(mostNum, 0)), n)
			values[i] = x
			checkMean(t, v, values, impl.Exact{}, want)
		}
	}
	checkMillionths(t, v, x, 0, want)
}

func TestExactNumbersOutOfRange(t *testing.T) {
	for _, v := range exactVariants() {
		for _, x := range noExacts(v.Sides) {
			refuseExacts(t, v, x, impl.ErrRange)
		}
	}
}

func TestExactNumbersOfInvalidVariants(t *testing.T) {
	for _, v := range invalidVariants() {
		for _, x := range append(noExacts(6), exact(0, 0), exact(1, 0), exact(1, 1), exact(mostNum, 0), exact(-mostNum, 9)) {
			refuseExacts(t, v, x, impl.ErrInvalid)
			checkMake(t, v, x.Num, x.Depth, impl.Exact{}, impl.ErrInvalid)
		}
		checkMean(t, v, nil, impl.Exact{}, impl.ErrInvalid)
		for _, text := range []string{"", "0", "1", "-5/1296", "1/4", "1/1", "x"} {
			refuseExactText(t, v, text)
		}
	}
}

// TestExactNumbersAtTheSameTime calls the functions for all numbers of sides at once, and again:
// nothing may remain from one call to another, and the order of a map must not show.
func TestExactNumbersAtTheSameTime(t *testing.T) {
	var all sync.WaitGroup
	for _, v := range slices.Repeat(exactVariants(), 2) {
		all.Go(func() {
			for _, x := range exactsOf(v.Sides)[:40] {
				sum, code := sumByRule(v.Sides, x, exact(1, 0))
				n, millionthsCode := millionthsByRule(v.Sides, x)
				for range 50 {
					checkSum(t, v, x, exact(1, 0), sum, code)
					checkExactText(t, v, x, textByRule(v.Sides, x))
					checkMillionths(t, v, x, n, millionthsCode)
				}
			}
		})
	}
	all.Wait()
}
