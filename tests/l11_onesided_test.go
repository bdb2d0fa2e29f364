package tests

import (
	"fmt"
	"math"
	"math/big"
	"math/rand"
	"runtime"
	"slices"
	"sync"
	"testing"
	"time"

	"loop.example/g00885/impl"
)

// wholeTables are variants of which all positions and rolls are checked.
func wholeTables() []impl.Variant {
	return []impl.Variant{
		variant(2, 1, 1, 1), variant(2, 15, 1, 6), variant(2, 15, 1, 2), variant(3, 1, 3, 1), variant(2, 2, 2, 2), variant(6, 5, 2, 3), variant(24, 15, 2, 3),
		variant(24, 9, 2, 6), variant(4, 3, 3, 3), variant(6, 3, 3, 2), variant(5, 2, 5, 4), variant(6, 4, 4, 1), variant(24, 2, 6, 6), variant(6, 3, 6, 3),
		variant(7, 1, 7, 2), variant(24, 1, 24, 6), variant(24, 2, 9, 5), variant(10, 4, 4, 6), variant(24, 4, 3, 4),
	}
}

// sampledTables are variants with many positions, nearly as many as the limit allows, of which some are checked.
func sampledTables() []impl.Variant {
	return []impl.Variant{
		variant(8, 4, 8, 6), variant(24, 8, 4, 5), variant(24, 12, 3, 6), variant(24, 3, 12, 4), variant(24, 2, 24, 3), variant(7, 4, 7, 2), variant(24, 15, 2, 6),
		variant(24, 5, 6, 6), variant(6, 6, 5, 1), variant(24, 6, 5, 6),
	}
}

// limitTables are variants in which some of the last positions need numbers without a valid Exact.
func limitTables() []impl.Variant {
	return []impl.Variant{variant(17, 2, 17, 6), variant(24, 2, 19, 5), variant(24, 12, 3, 5), variant(24, 12, 3, 6), variant(24, 3, 12, 5)}
}

// hugeTables are variants with more than MaxTable positions.
func hugeTables() []impl.Variant {
	return append(append(numberedVariants()[:5:5], unnumberedVariants()...), variant(24, 13, 3, 6), variant(13, 3, 13, 1), variant(24, 6, 6, 2))
}

// orderedPositions returns the positions of points whose greatest one is the last, with at most so
// many checkers, in their order.
func orderedPositions(points, checkers int64) [][]int64 {
	if points == 0 {
		return [][]int64{{}}
	}
	var positions [][]int64
	for last := range checkers + 1 {
		for _, p := range orderedPositions(points-1, checkers-last) {
			positions = append(positions, append(p, last))
		}
	}
	return positions
}

func ratio(a, b int64) *big.Rat { return big.NewRat(a, b) }

// A solved position has what the document defines, with ratios for the numbers, and for each kind of
// numbers whether all that it needs have a valid Exact.
type solved struct {
	p              []int64
	best, greedy   []int // of each roll, the numbers of the results
	expected       *big.Rat
	greedyRolls    *big.Rat
	chances        []*big.Rat
	bestKnown      []bool // of each roll
	expectedKnown  bool
	chancesKnown   bool
	mostKnown      bool
	greedyRollsOK  bool
	resultsOfRolls [][]int
}

type solution struct {
	v     impl.Variant
	rolls []impl.Roll
	list  []solved
}

var solutions = struct {
	sync.Mutex
	of map[impl.Variant]*solution
}{of: map[impl.Variant]*solution{}}

// solve computes what chapter 11 defines for all positions of a variant, in their order.
func solve(v impl.Variant) *solution {
	solutions.Lock()
	defer solutions.Unlock()
	if s := solutions.of[v]; s != nil {
		return s
	}
	s := &solution{v: v, rolls: rollsByRule(v)}
	for _, p := range orderedPositions(v.Home, v.Checkers) {
		s.list = append(s.list, s.solved(p))
	}
	solutions.of[v] = s
	return s
}

func (s *solution) weight(roll int) *big.Rat {
	weight := int64(2)
	if s.rolls[roll].A == s.rolls[roll].B {
		weight = 1
	}
	return ratio(weight, s.v.Sides*s.v.Sides)
}

func (s *solution) valid(x *big.Rat) bool {
	_, code := exactByRule(s.v.Sides, x)
	return code == impl.ErrNone
}

func (s *solution) solved(p []int64) solved {
	if sumOf(p) == 0 {
		return solved{
			p: p, expected: ratio(0, 1), greedyRolls: ratio(0, 1), chances: []*big.Rat{ratio(1, 1)},
			expectedKnown: true, chancesKnown: true, mostKnown: true, greedyRollsOK: true,
		}
	}
	x := solved{p: p, mostKnown: true}
	for _, r := range s.rolls {
		x.resultsOfRolls = append(x.resultsOfRolls, s.results(p, r))
	}
	for _, results := range x.resultsOfRolls {
		best, known := s.bestOf(results)
		x.best, x.bestKnown = append(x.best, best), append(x.bestKnown, known)
		x.greedy = append(x.greedy, s.greedyOf(results))
		x.mostKnown = x.mostKnown && known
	}
	x.expected = s.meanOf(x.best, func(q solved) *big.Rat { return q.expected })
	x.expected.Add(x.expected, ratio(1, 1))
	x.greedyRolls = s.meanOf(x.greedy, func(q solved) *big.Rat { return q.greedyRolls })
	x.greedyRolls.Add(x.greedyRolls, ratio(1, 1))
	x.chances = s.chancesOf(x.best)
	x.expectedKnown = x.mostKnown && s.valid(x.expected)
	x.chancesKnown = x.mostKnown && !slices.ContainsFunc(x.chances, func(c *big.Rat) bool { return !s.valid(c) })
	x.greedyRollsOK = s.valid(x.greedyRolls)
	for i := range s.rolls {
		x.chancesKnown = x.chancesKnown && s.list[x.best[i]].chancesKnown
		x.greedyRollsOK = x.greedyRollsOK && s.list[x.greedy[i]].greedyRollsOK
	}
	return x
}

func (s *solution) results(p []int64, r impl.Roll) []int {
	results, _ := impl.BearoffResults(s.v, p, r)
	var numbers []int
	for _, q := range results {
		numbers = append(numbers, int(numberByRule(s.v, q)))
	}
	return numbers
}

func (s *solution) bestOf(results []int) (int, bool) {
	best, known := results[0], true
	for _, q := range results {
		known = known && s.list[q].expectedKnown
		if s.list[q].expected.Cmp(s.list[best].expected) < 0 {
			best = q
		}
	}
	return best, known
}

func (s *solution) greedyOf(results []int) int {
	best := results[0]
	for _, q := range results {
		checkers, least := sumOf(s.list[q].p), sumOf(s.list[best].p)
		if checkers < least || checkers == least && pipsByRule(s.list[q].p) < pipsByRule(s.list[best].p) {
			best = q
		}
	}
	return best
}

func (s *solution) meanOf(chosen []int, of func(q solved) *big.Rat) *big.Rat {
	mean := new(big.Rat)
	for i, q := range chosen {
		mean.Add(mean, new(big.Rat).Mul(s.weight(i), of(s.list[q])))
	}
	return mean
}

func (s *solution) chancesOf(chosen []int) []*big.Rat {
	chances := []*big.Rat{ratio(0, 1)}
	for k := 0; ; k++ {
		chance := s.meanOf(chosen, func(q solved) *big.Rat {
			if k < len(q.chances) {
				return q.chances[k]
			}
			return ratio(0, 1)
		})
		chances = append(chances, chance)
		if !slices.ContainsFunc(chosen, func(q int) bool { return len(s.list[q].chances) > k+1 }) {
			return chances
		}
	}
}

// wanted returns the Exact of a ratio, or nothing and ErrLimit if a number that it needs is unknown.
func (s *solution) wanted(x *big.Rat, known bool) (impl.Exact, int64) {
	if !known {
		return impl.Exact{}, impl.ErrLimit
	}
	return exactByRule(s.v.Sides, x)
}

func checkNumbers(t *testing.T, s *solution, x solved) {
	t.Helper()
	want, wantCode := s.wanted(x.expected, x.expectedKnown)
	got, code := impl.ExpectedRolls(s.v, x.p)
	checkExact(t, s.v, fmt.Sprint("expected rolls of ", x.p), got, code, want, wantCode)
	want, wantCode = s.wanted(x.greedyRolls, x.greedyRollsOK)
	got, code = impl.GreedyRolls(s.v, x.p)
	checkExact(t, s.v, fmt.Sprint("greedy rolls of ", x.p), got, code, want, wantCode)
	most, mostCode := int64(len(x.chances)-1), int64(impl.ErrNone)
	if !x.mostKnown {
		most, mostCode = 0, impl.ErrLimit
	}
	if n, code := impl.MostRolls(s.v, x.p); n != most || code != mostCode {
		t.Errorf("%v: most rolls of %v are %d, code %d, not %d, code %d", s.v, x.p, n, code, most, mostCode)
	}
}

func checkChances(t *testing.T, s *solution, x solved) {
	t.Helper()
	var want []impl.Exact
	wantCode := int64(impl.ErrLimit)
	if x.chancesKnown {
		wantCode = impl.ErrNone
		for _, c := range x.chances {
			chance, _ := exactByRule(s.v.Sides, c)
			want = append(want, chance)
		}
	}
	if got, code := impl.RollsDistribution(s.v, x.p); code != wantCode || !slices.Equal(got, want) {
		t.Errorf("%v: distribution of %v is %v, code %d, not %v, code %d", s.v, x.p, got, code, want, wantCode)
	}
}

// checkWithin adds up the chances of up to so many rolls.
func checkWithin(t *testing.T, s *solution, x solved, rolls int64) {
	t.Helper()
	sum := new(big.Rat)
	for k, c := range x.chances {
		if int64(k) <= rolls {
			sum.Add(sum, c)
		}
	}
	want, wantCode := s.wanted(sum, x.chancesKnown)
	got, code := impl.ChanceWithin(s.v, x.p, rolls)
	checkExact(t, s.v, fmt.Sprint("chance within ", rolls, " of ", x.p), got, code, want, wantCode)
}

func checkChosen(t *testing.T, s *solution, x solved, i int) {
	t.Helper()
	r := s.rolls[i]
	best, greedy, wantCode := x.p, x.p, int64(impl.ErrNone) // without checkers
	if len(x.best) > 0 {
		best, greedy = s.list[x.best[i]].p, s.list[x.greedy[i]].p
		if !x.bestKnown[i] {
			best, wantCode = nil, impl.ErrLimit
		}
	}
	if got, code := impl.BestResult(s.v, x.p, r); code != wantCode || !slices.Equal(got, best) {
		t.Errorf("%v: best result of %v with %v is %v, code %d, not %v, code %d", s.v, x.p, r, got, code, best, wantCode)
	}
	if got, code := impl.GreedyResult(s.v, x.p, r); code != impl.ErrNone || !slices.Equal(got, greedy) {
		t.Errorf("%v: greedy result of %v with %v is %v, code %d, not %v", s.v, x.p, r, got, code, greedy)
	}
}

// TestOneSidedTables has all positions and rolls of variants.
func TestOneSidedTables(t *testing.T) {
	for _, v := range wholeTables() {
		s := solve(v)
		for _, x := range s.list {
			checkNumbers(t, s, x)
			checkChances(t, s, x)
			for rolls := range int64(len(x.chances) + 2) {
				checkWithin(t, s, x, rolls)
			}
			for i := range s.rolls {
				checkChosen(t, s, x, i)
			}
		}
	}
}

// TestSampledTables has the first and last positions of large tables, and random ones.
func TestSampledTables(t *testing.T) {
	rnd := rand.New(rand.NewSource(1))
	for _, v := range sampledTables() {
		s := solve(v)
		last := len(s.list) - 1
		for _, number := range append([]int{0, 1, 2, last - 1, last}, rnd.Perm(last)[:15]...) {
			x := s.list[number]
			checkNumbers(t, s, x)
			checkChances(t, s, x)
			checkWithin(t, s, x, rnd.Int63n(int64(len(x.chances))))
			for range 3 {
				checkChosen(t, s, x, rnd.Intn(len(s.rolls)))
			}
		}
	}
}

// TestNumbersWithoutValidExact has the positions from just before the first one that needs a number
// without a valid Exact up to the last one.
func TestNumbersWithoutValidExact(t *testing.T) {
	for _, v := range limitTables() {
		s := solve(v)
		first := slices.IndexFunc(s.list, func(x solved) bool { return !x.expectedKnown || !x.greedyRollsOK })
		if first < 0 {
			t.Fatal(v, "has no limit")
		}
		for _, x := range s.list[max(first-2, len(s.list)-25):] {
			checkNumbers(t, s, x)
			checkChances(t, s, x)
			for _, rolls := range list(0, 1, 1000) {
				checkWithin(t, s, x, rolls)
			}
			for i := range s.rolls {
				if !x.mostKnown || i%7 == 0 { // otherwise all rolls are alike
					checkChosen(t, s, x, i)
				}
			}
		}
	}
}

// TestKindsOfLimits checks that the variants of the test before have positions of every kind: with
// numbers that are known although others are not.
func TestKindsOfLimits(t *testing.T) {
	kinds := map[string]int{}
	for _, v := range limitTables() {
		for _, x := range solve(v).list {
			if x.mostKnown && !x.expectedKnown {
				kinds["only the own number is unknown"]++
			}
			if !x.mostKnown && slices.Contains(x.bestKnown, true) {
				kinds["known best results of some rolls"]++
			}
			if x.expectedKnown && !x.greedyRollsOK {
				kinds["only the greedy number is unknown"]++
			}
			if !x.expectedKnown && x.greedyRollsOK {
				kinds["known greedy number"]++
			}
			if x.expectedKnown != x.chancesKnown {
				t.Errorf("%v: %v has an expected number without chances, or the other way round", v, x.p)
			}
		}
	}
	if len(kinds) != 4 {
		t.Error(kinds)
	}
}

// TestRecursionOfExpectedRolls checks the first part of promise 11 by the functions alone: the
// expected number is 1 plus the mean of the smallest ones of the results, the first of which is the
// best result.
func TestRecursionOfExpectedRolls(t *testing.T) {
	for _, v := range []impl.Variant{variant(6, 3, 3, 3), variant(24, 2, 6, 6), variant(5, 2, 5, 4), variant(24, 7, 2, 2), variant(6, 4, 3, 1), variant(24, 11, 1, 5)} {
		for _, p := range positionsOf(v) {
			if sumOf(p) == 0 {
				continue
			}
			var smallest []impl.Exact
			for _, r := range impl.AllRolls(v) {
				smallest = append(smallest, smallestOf(t, v, p, r))
			}
			mean, _ := impl.MeanExact(v, smallest)
			want, wantCode := impl.AddExact(v, mean, exact(1, 0))
			got, code := impl.ExpectedRolls(v, p)
			checkExact(t, v, fmt.Sprint("expected rolls of ", p), got, code, want, wantCode)
		}
	}
}

// smallestOf returns the smallest expected number of the results of a roll, and checks that the best
// result is the first one with this number.
func smallestOf(t *testing.T, v impl.Variant, p []int64, r impl.Roll) impl.Exact {
	t.Helper()
	results, _ := impl.BearoffResults(v, p, r)
	var first []int64
	var smallest impl.Exact
	for _, q := range results {
		x, code := impl.ExpectedRolls(v, q)
		order, _ := impl.CompareExact(v, x, smallest)
		if code != impl.ErrNone {
			t.Fatal(v, q, code)
		}
		if first == nil || order < 0 {
			first, smallest = q, x
		}
	}
	if best, code := impl.BestResult(v, p, r); code != impl.ErrNone || !slices.Equal(best, first) {
		t.Errorf("%v: best result of %v with %v is %v, code %d, not %v", v, p, r, best, code, first)
	}
	return smallest
}

// TestDistributionsAddUp checks the second part of promise 11, and the guarantee of the chapter.
func TestDistributionsAddUp(t *testing.T) {
	rnd := rand.New(rand.NewSource(2))
	for _, v := range append(wholeTables(), sampledTables()...) {
		for range 12 {
			p := randomPosition(rnd, v)
			chances, code := impl.RollsDistribution(v, p)
			expected, expectedCode := impl.ExpectedRolls(v, p)
			greedy, greedyCode := impl.GreedyRolls(v, p)
			if code != expectedCode {
				t.Errorf("%v: %v has the codes %d and %d", v, p, code, expectedCode)
			}
			if code != impl.ErrNone {
				continue
			}
			sum, mean := new(big.Rat), new(big.Rat)
			for k, c := range chances {
				if !isExactByRule(v.Sides, c) || c.Num < 0 {
					t.Errorf("%v: chance of %v to need %d rolls: %v", v, p, k, c)
				}
				sum.Add(sum, ratioOf(v.Sides, c))
				mean.Add(mean, new(big.Rat).Mul(ratio(int64(k), 1), ratioOf(v.Sides, c)))
			}
			if sum.Cmp(ratio(1, 1)) != 0 || mean.Cmp(ratioOf(v.Sides, expected)) != 0 || chances[len(chances)-1].Num == 0 {
				t.Errorf("%v: distribution of %v is %v, with the sum %v and the mean %v, not %v", v, p, chances, sum, mean, expected)
			}
			if greedyCode == impl.ErrNone && ratioOf(v.Sides, greedy).Cmp(mean) < 0 {
				t.Errorf("%v: %v has the greedy number %v, less than %v", v, p, greedy, expected)
			}
		}
	}
}

// playedOut returns the chances to need k rolls if the results are chosen by a function: it follows
// the chances of all positions from roll to roll.
func playedOut(v impl.Variant, p []int64, choose func(p []int64, r impl.Roll) []int64) []*big.Rat {
	s := &solution{v: v, rolls: rollsByRule(v)}
	at := map[string]*big.Rat{positionTextByRule(p): ratio(1, 1)}
	positions := map[string][]int64{positionTextByRule(p): p}
	end := positionTextByRule(make([]int64, v.Home))
	var chances []*big.Rat
	for len(at) > 0 {
		chance := at[end]
		if chance == nil {
			chance = ratio(0, 1)
		}
		chances = append(chances, chance)
		delete(at, end)
		next := map[string]*big.Rat{}
		for text, c := range at {
			for i, r := range s.rolls {
				q := choose(positions[text], r)
				name := positionTextByRule(q)
				positions[name] = q
				if next[name] == nil {
					next[name] = new(big.Rat)
				}
				next[name].Add(next[name], new(big.Rat).Mul(c, s.weight(i)))
			}
		}
		at = next
	}
	return chances
}

// TestPlayedOut compares the distribution and the greedy number with what follows from the chosen
// results, roll by roll.
func TestPlayedOut(t *testing.T) {
	rnd := rand.New(rand.NewSource(3))
	for _, v := range []impl.Variant{variant(6, 3, 3, 3), variant(24, 2, 6, 6), variant(5, 2, 5, 4), variant(24, 7, 2, 2), variant(6, 4, 3, 1), variant(24, 11, 1, 5), variant(24, 4, 3, 6)} {
		for range 12 {
			p := randomPosition(rnd, v)
			best := playedOut(v, p, func(p []int64, r impl.Roll) []int64 {
				q, _ := impl.BestResult(v, p, r)
				return q
			})
			got, code := impl.RollsDistribution(v, p)
			most, _ := impl.MostRolls(v, p)
			if code != impl.ErrNone || len(got) != len(best) || most != int64(len(best)-1) {
				t.Fatalf("%v: distribution of %v is %v, code %d, at most %d rolls, not %v", v, p, got, code, most, best)
			}
			for k, c := range best {
				if ratioOf(v.Sides, got[k]).Cmp(c) != 0 {
					t.Errorf("%v: %v needs %d rolls with the chance %v, not %v", v, p, k, got[k], c)
				}
			}
			greedy := playedOut(v, p, func(p []int64, r impl.Roll) []int64 {
				q, _ := impl.GreedyResult(v, p, r)
				return q
			})
			mean := new(big.Rat)
			for k, c := range greedy {
				mean.Add(mean, new(big.Rat).Mul(c, ratio(int64(k), 1)))
			}
			want, wantCode := exactByRule(v.Sides, mean)
			x, code := impl.GreedyRolls(v, p)
			checkExact(t, v, fmt.Sprint("greedy rolls of ", p), x, code, want, wantCode)
		}
	}
}

// TestTwoCheckersInTheFullHome has the well-known numbers of the rolls, of 36, with which two
// checkers are borne off at once.
func TestTwoCheckersInTheFullHome(t *testing.T) {
	v := variant(24, 2, 6, 6)
	both := [6][6]int64{{36}, {36, 26}, {34, 25, 17}, {29, 23, 17, 11}, {23, 19, 14, 10, 6}, {15, 13, 10, 8, 6, 4}}
	single := [6]int64{36, 36, 36, 34, 31, 27}
	check := func(p []int64, rolls int64) {
		want, _ := exactByRule(6, ratio(rolls, 36))
		got, code := impl.ChanceWithin(v, p, 1)
		checkExact(t, v, fmt.Sprint("chance within 1 of ", p), got, code, want, impl.ErrNone)
	}
	for i := range 6 {
		check(filled(6, map[int]int64{i: 1}), single[i])
		want, _ := exactByRule(6, ratio(72-single[i], 36))
		got, code := impl.ExpectedRolls(v, filled(6, map[int]int64{i: 1}))
		checkExact(t, v, fmt.Sprint("expected rolls of the point ", i), got, code, want, impl.ErrNone)
		for k := range i {
			check(filled(6, map[int]int64{i: 1, k: 1}), both[i][k])
		}
		check(filled(6, map[int]int64{i: 2}), both[i][i])
	}
}

// TestOneHomePoint has positions whose every die bears off one checker.
func TestOneHomePoint(t *testing.T) {
	for sides := int64(1); sides <= 6; sides++ {
		v := variant(2, 15, 1, sides)
		numbers := []*big.Rat{ratio(0, 1)}
		for n := int64(1); n <= 15; n++ {
			x := new(big.Rat).Mul(ratio(1, sides), numbers[max(0, n-4)])
			x.Add(x, new(big.Rat).Mul(ratio(sides-1, sides), numbers[max(0, n-2)]))
			numbers = append(numbers, x.Add(x, ratio(1, 1)))
			want, wantCode := exactByRule(sides, x)
			got, code := impl.ExpectedRolls(v, list(n))
			checkExact(t, v, fmt.Sprint("expected rolls of ", n), got, code, want, wantCode)
			got, code = impl.GreedyRolls(v, list(n))
			checkExact(t, v, fmt.Sprint("greedy rolls of ", n), got, code, want, wantCode)
			most := (n + 1) / 2
			if sides == 1 {
				most = (n + 3) / 4
			}
			if got, code := impl.MostRolls(v, list(n)); got != most || code != impl.ErrNone {
				t.Errorf("%v: most rolls of %d are %d, code %d, not %d", v, n, got, code, most)
			}
		}
	}
}

// TestOneSide has dice whose every roll is four steps of one pip, of which none is lost.
func TestOneSide(t *testing.T) {
	for _, v := range []impl.Variant{variant(2, 15, 2, 1), variant(5, 4, 4, 1), variant(9, 2, 9, 1), variant(24, 1, 24, 1), variant(4, 12, 3, 1)} {
		for i, p := range orderedPositions(v.Home, v.Checkers) {
			if i%3 != 0 && i > 20 {
				continue
			}
			rolls := (pipsByRule(p) + 3) / 4
			want := make([]impl.Exact, rolls+1)
			want[rolls] = exact(1, 0)
			got, code := impl.RollsDistribution(v, p)
			x, _ := impl.ExpectedRolls(v, p)
			y, _ := impl.GreedyRolls(v, p)
			n, _ := impl.MostRolls(v, p)
			if code != impl.ErrNone || !slices.Equal(got, want) || x != exact(rolls, 0) || y != x || n != rolls {
				t.Errorf("%v: %v needs %v, %v, %v, %d rolls, code %d, not %d", v, p, got, x, y, n, code, rolls)
			}
		}
	}
}

func TestExamplesOfOneSidedBearoff(t *testing.T) {
	half := exact(2, 1)
	for _, c := range []struct {
		v                impl.Variant
		p                []int64
		expected, greedy impl.Exact
		chances          []impl.Exact
	}{
		{variant(2, 5, 1, 1), list(5), exact(2, 0), exact(2, 0), exacts(exact(0, 0), exact(0, 0), exact(1, 0))},
		{variant(2, 5, 1, 1), list(4), exact(1, 0), exact(1, 0), exacts(exact(0, 0), exact(1, 0))},
		{variant(2, 5, 1, 1), list(0), exact(0, 0), exact(0, 0), exacts(exact(1, 0))},
		{variant(6, 2, 2, 2), list(0, 0), exact(0, 0), exact(0, 0), exacts(exact(1, 0))},
		{variant(6, 2, 2, 2), list(1, 1), exact(1, 0), exact(1, 0), exacts(exact(0, 0), exact(1, 0))},
		{variant(6, 2, 2, 2), list(0, 2), exact(6, 1), exact(6, 1), exacts(exact(0, 0), half, half)},
		{variant(24, 2, 6, 6), list(0, 0, 0, 0, 0, 1), exact(45, 1), exact(45, 1), exacts(exact(0, 0), exact(27, 1), exact(9, 1))},
		{variant(6, 1, 6, 1), list(0, 0, 0, 0, 1, 0), exact(2, 0), exact(2, 0), exacts(exact(0, 0), exact(0, 0), exact(1, 0))},
	} {
		x, code := impl.ExpectedRolls(c.v, c.p)
		checkExact(t, c.v, fmt.Sprint("expected rolls of ", c.p), x, code, c.expected, impl.ErrNone)
		x, code = impl.GreedyRolls(c.v, c.p)
		checkExact(t, c.v, fmt.Sprint("greedy rolls of ", c.p), x, code, c.greedy, impl.ErrNone)
		if got, code := impl.RollsDistribution(c.v, c.p); code != impl.ErrNone || !slices.Equal(got, c.chances) {
			t.Errorf("%v: distribution of %v is %v, code %d, not %v", c.v, c.p, got, code, c.chances)
		}
		if n, code := impl.MostRolls(c.v, c.p); code != impl.ErrNone || n != int64(len(c.chances)-1) {
			t.Errorf("%v: most rolls of %v are %d, code %d", c.v, c.p, n, code)
		}
	}
}

// TestExamplesOfChosenResults has rolls whose best result is known from the chances of two checkers
// to be borne off at once.
func TestExamplesOfChosenResults(t *testing.T) {
	small, two := variant(6, 2, 2, 2), variant(24, 2, 6, 6)
	three, one := variant(24, 3, 3, 3), variant(24, 15, 2, 1)
	for _, c := range []struct {
		v            impl.Variant
		p            []int64
		r            impl.Roll
		best, greedy []int64
	}{
		{small, list(0, 2), roll(2, 1), list(1, 0), list(1, 0)},
		{small, list(0, 0), roll(2, 1), list(0, 0), list(0, 0)},
		{small, list(0, 2), roll(2, 2), list(0, 0), list(0, 0)},
		{two, list(0, 0, 0, 2, 0, 0), roll(2, 1), list(1, 0, 0, 1, 0, 0), list(0, 1, 1, 0, 0, 0)}, // 29 rolls, not 25
		{two, list(0, 1, 0, 0, 0, 1), roll(3, 1), list(1, 0, 1, 0, 0, 0), list(0, 2, 0, 0, 0, 0)}, // 34 rolls, not 26
		{two, list(0, 0, 0, 0, 2, 0), roll(1, 1), list(0, 1, 0, 1, 0, 0), list(0, 0, 2, 0, 0, 0)}, // 23 rolls, not 17
		{two, list(0, 0, 0, 0, 2, 0), roll(3, 2), list(0, 0, 0, 0, 1, 0), list(0, 0, 0, 0, 1, 0)}, // 31 rolls, not 25
		{two, list(0, 0, 0, 0, 1, 1), roll(6, 5), list(0, 0, 0, 0, 0, 0), list(0, 0, 0, 0, 0, 0)},
		{two, list(1, 0, 0, 0, 0, 1), roll(2, 1), list(1, 0, 1, 0, 0, 0), list(0, 0, 0, 1, 0, 0)}, // the first of two with 34 rolls
		{three, list(0, 2, 1), roll(2, 1), list(1, 0, 1), list(0, 2, 0)},                          // the greedy result is the first of two
		{one, list(5, 1), roll(1, 1), list(3, 0), list(1, 1)},                                     // both results need one more roll
		{one, list(3, 3), roll(1, 1), list(5, 0), list(1, 2)},                                     // all of the three need two
		{variant(24, 3, 3, 2), list(0, 1, 2), roll(1, 1), list(2, 1, 0), list(0, 2, 0)},           // the first of three each time
		{variant(24, 15, 1, 4), list(9), roll(3, 2), list(7), list(7)},
		{variant(24, 15, 1, 4), list(9), roll(3, 3), list(5), list(5)},
	} {
		if got, code := impl.BestResult(c.v, c.p, c.r); code != impl.ErrNone || !slices.Equal(got, c.best) {
			t.Errorf("%v: best result of %v with %v is %v, code %d, not %v", c.v, c.p, c.r, got, code, c.best)
		}
		if got, code := impl.GreedyResult(c.v, c.p, c.r); code != impl.ErrNone || !slices.Equal(got, c.greedy) {
			t.Errorf("%v: greedy result of %v with %v is %v, code %d, not %v", c.v, c.p, c.r, got, code, c.greedy)
		}
	}
}

// refuseOneSided checks what the functions without a roll return for p.
func refuseOneSided(t *testing.T, v impl.Variant, p []int64, want int64) {
	t.Helper()
	for name, f := range map[string]func() (impl.Exact, int64){
		"expected rolls":     func() (impl.Exact, int64) { return impl.ExpectedRolls(v, p) },
		"greedy rolls":       func() (impl.Exact, int64) { return impl.GreedyRolls(v, p) },
		"chance within 0":    func() (impl.Exact, int64) { return impl.ChanceWithin(v, p, 0) },
		"chance within 1000": func() (impl.Exact, int64) { return impl.ChanceWithin(v, p, 1000) },
	} {
		x, code := f()
		checkExact(t, v, fmt.Sprint(name, " of ", p), x, code, impl.Exact{}, want)
	}
	if got, code := impl.RollsDistribution(v, p); len(got) != 0 || code != want {
		t.Errorf("%v: distribution of %v is %v, code %d, not %d", v, p, got, code, want)
	}
	if n, code := impl.MostRolls(v, p); n != 0 || code != want {
		t.Errorf("%v: most rolls of %v are %d, code %d, not %d", v, p, n, code, want)
	}
}

// refuseChosen checks what BestResult and GreedyResult return for p and r.
func refuseChosen(t *testing.T, v impl.Variant, p []int64, r impl.Roll, want int64) {
	t.Helper()
	if got, code := impl.BestResult(v, p, r); len(got) != 0 || code != want {
		t.Errorf("%v: best result of %v with %v is %v, code %d, not %d", v, p, r, got, code, want)
	}
	if got, code := impl.GreedyResult(v, p, r); len(got) != 0 || code != want {
		t.Errorf("%v: greedy result of %v with %v is %v, code %d, not %d", v, p, r, got, code, want)
	}
}

func refuseWithin(t *testing.T, v impl.Variant, p []int64, rolls, want int64) {
	t.Helper()
	x, code := impl.ChanceWithin(v, p, rolls)
	checkExact(t, v, fmt.Sprint("chance within ", rolls, " of ", p), x, code, impl.Exact{}, want)
}

// noCounts are numbers of rolls out of range.
func noCounts() []int64 {
	return list(-1, -2, -1000, -1<<32, math.MinInt64, math.MinInt64+1, 1001, 1002, 1<<32, 1<<32+1, math.MaxInt64-1, math.MaxInt64)
}

func TestChancesWithinOtherNumbers(t *testing.T) {
	for _, v := range []impl.Variant{variant(2, 1, 1, 1), variant(4, 3, 3, 3), variant(24, 2, 6, 6), variant(24, 15, 2, 6)} {
		for _, p := range [][]int64{make([]int64, v.Home), filled(int(v.Home), map[int]int64{0: 1}), filled(int(v.Home), map[int]int64{int(v.Home) - 1: v.Checkers})} {
			for _, rolls := range noCounts() {
				refuseWithin(t, v, p, rolls, impl.ErrRange)
			}
			for _, rolls := range list(24, 100, 999, 1000) {
				x, code := impl.ChanceWithin(v, p, rolls)
				checkExact(t, v, fmt.Sprint("chance within ", rolls, " of ", p), x, code, exact(1, 0), impl.ErrNone)
			}
		}
	}
}

func TestOneSidedOfNoPositions(t *testing.T) {
	for _, v := range slices.Concat(bearoffVariants()[:6], sampledTables()[:3], hugeTables()[:7]) {
		for _, p := range noPositions(v) {
			refuseOneSided(t, v, p, impl.ErrRange)
			refuseWithin(t, v, p, -1, impl.ErrRange)
			for _, r := range []impl.Roll{roll(1, 1), roll(2, 1), roll(1, 2), roll(7, 7), {}} {
				refuseChosen(t, v, p, r, impl.ErrRange)
			}
		}
	}
}

func TestOneSidedOfInvalidVariants(t *testing.T) {
	for _, v := range invalidVariants() {
		for _, size := range []int{0, 1, 2, 3, 6, 24, 25} {
			for _, p := range [][]int64{make([]int64, size), slices.Repeat(list(-1), size), slices.Repeat(list(1), size)} {
				refuseOneSided(t, v, p, impl.ErrInvalid)
				for _, rolls := range noCounts() {
					refuseWithin(t, v, p, rolls, impl.ErrInvalid)
				}
				for _, r := range []impl.Roll{roll(1, 1), roll(2, 1), roll(1, 2), roll(7, 7), {}} {
					refuseChosen(t, v, p, r, impl.ErrInvalid)
				}
			}
		}
	}
}

func TestChosenResultsOfNoRoll(t *testing.T) {
	rnd := rand.New(rand.NewSource(4))
	for _, v := range slices.Concat(wholeTables(), hugeTables(), limitTables()) {
		for _, p := range [][]int64{make([]int64, v.Home), randomPosition(rnd, v), filled(int(v.Home), map[int]int64{int(v.Home) - 1: v.Checkers})} {
			for _, r := range strangeRolls(v.Sides) {
				refuseChosen(t, v, p, r, impl.ErrRange)
			}
		}
	}
}

// TestTooManyPositionsForTables has variants with more than MaxTable positions. Only the greedy
// result does not depend on their number.
func TestTooManyPositionsForTables(t *testing.T) {
	rnd := rand.New(rand.NewSource(5))
	for _, v := range hugeTables() {
		for _, p := range [][]int64{make([]int64, v.Home), filled(int(v.Home), map[int]int64{0: 1}), randomPosition(rnd, v), randomPosition(rnd, v), randomPosition(rnd, v)} {
			refuseOneSided(t, v, p, impl.ErrLimit)
			for _, rolls := range noCounts() { // the number of positions is looked at first
				refuseWithin(t, v, p, rolls, impl.ErrLimit)
			}
			for _, r := range rollsByRule(v) {
				if got, code := impl.BestResult(v, p, r); len(got) != 0 || code != impl.ErrLimit {
					t.Errorf("%v: best result of %v with %v is %v, code %d", v, p, r, got, code)
				}
			}
			r := rollsByRule(v)[rnd.Int63n(v.Sides*(v.Sides+1)/2)]
			checkGreedyResult(t, v, p, r)
		}
	}
}

// checkGreedyResult compares all results of a roll.
func checkGreedyResult(t *testing.T, v impl.Variant, p []int64, r impl.Roll) {
	t.Helper()
	results, _ := impl.BearoffResults(v, p, r)
	want := results[0]
	for _, q := range results {
		if sumOf(q) < sumOf(want) || sumOf(q) == sumOf(want) && pipsByRule(q) < pipsByRule(want) {
			want = q
		}
	}
	if got, code := impl.GreedyResult(v, p, r); code != impl.ErrNone || !slices.Equal(got, want) {
		t.Errorf("%v: greedy result of %v with %v is %v, code %d, not %v", v, p, r, got, code, want)
	}
}

// TestGreedyResultsOfManyPositions has variants of all sizes.
func TestGreedyResultsOfManyPositions(t *testing.T) {
	rnd := rand.New(rand.NewSource(6))
	for _, v := range slices.Concat(bearoffVariants(), numberedVariants(), unnumberedVariants(), limitTables()) {
		rolls := rollsByRule(v)
		for range 100 {
			checkGreedyResult(t, v, randomPosition(rnd, v), rolls[rnd.Intn(len(rolls))])
		}
	}
}

// TestSizesOfTables has all numbers of home points and checkers, and therefore the greatest number
// of positions up to MaxTable, 495, and the smallest one above it, 560.
func TestSizesOfTables(t *testing.T) {
	most, least := int64(0), int64(math.MaxInt64)
	for home := int64(1); home <= 24; home++ {
		for checkers := int64(1); checkers <= 15; checkers++ {
			v := variant(max(2, home), checkers, home, 1+(home+checkers)%6)
			n := countByRule(v)
			p := filled(int(home), map[int]int64{0: 1})
			if n > 500 {
				least = min(least, n)
				refuseOneSided(t, v, p, impl.ErrLimit)
				continue
			}
			most = max(most, n)
			x, code := impl.ExpectedRolls(v, p)
			checkExact(t, v, fmt.Sprint("expected rolls of ", p), x, code, exact(1, 0), impl.ErrNone)
			x, code = impl.GreedyRolls(v, p)
			checkExact(t, v, fmt.Sprint("greedy rolls of ", p), x, code, exact(1, 0), impl.ErrNone)
			if q, code := impl.BestResult(v, p, roll(1, 1)); code != impl.ErrNone || int64(len(q)) != home || sumOf(q) != 0 {
				t.Errorf("%v: best result %v, code %d", v, q, code)
			}
		}
	}
	if most != 495 || least != 560 {
		t.Error(most, least)
	}
}

// TestPointsDoNotMatter compares variants that differ in the number of points alone, or have more
// checkers than the position.
func TestPointsDoNotMatter(t *testing.T) {
	rnd := rand.New(rand.NewSource(7))
	for _, v := range []impl.Variant{variant(3, 4, 3, 3), variant(6, 2, 6, 6), variant(4, 3, 4, 2)} {
		for range 20 {
			p := randomPosition(rnd, v)
			x, _ := impl.ExpectedRolls(v, p)
			list, _ := impl.RollsDistribution(v, p)
			for _, w := range []impl.Variant{variant(v.Points+1, v.Checkers, v.Home, v.Sides), variant(24, v.Checkers, v.Home, v.Sides), variant(24, v.Checkers+1, v.Home, v.Sides)} {
				y, code := impl.ExpectedRolls(w, p)
				other, _ := impl.RollsDistribution(w, p)
				if x != y || code != impl.ErrNone || !slices.Equal(list, other) {
					t.Errorf("%v needs %v, but %v in %v, code %d", p, x, y, w, code)
				}
			}
		}
	}
}

// TestOneSidedKeepsPositions gives positions in a memory that is larger, and overwrites each result
// before it looks at the next one.
func TestOneSidedKeepsPositions(t *testing.T) {
	v := variant(6, 3, 3, 3)
	s := solve(v)
	for _, number := range []int{0, 1, 5, 10, 19} {
		x := s.list[number]
		memory := append(slices.Clone(x.p), 77, 88, 99)
		before := slices.Clone(memory)
		given := x
		given.p = memory[:3]
		for range 2 { // nothing is kept from the first time
			checkNumbers(t, s, given)
			checkChances(t, s, given)
			chances, _ := impl.RollsDistribution(v, given.p)
			for i := range chances[:cap(chances)] {
				chances[:cap(chances)][i] = exact(-9, 9)
			}
			for i, r := range s.rolls {
				checkChosen(t, s, given, i)
				best, _ := impl.BestResult(v, given.p, r)
				overwrite(best)
				greedy, _ := impl.GreedyResult(v, given.p, r)
				overwrite(greedy)
			}
			if !slices.Equal(memory, before) {
				t.Fatal(memory, before)
			}
		}
	}
}

// TestOneSidedAtTheSameTime calls the functions for several variants at once, and again.
func TestOneSidedAtTheSameTime(t *testing.T) {
	var all sync.WaitGroup
	for i, v := range slices.Repeat(wholeTables()[4:12], 2) {
		s := solve(v)
		all.Go(func() {
			rnd := rand.New(rand.NewSource(int64(i)))
			for range 10 {
				x := s.list[rnd.Intn(len(s.list))]
				checkNumbers(t, s, x)
				checkChances(t, s, x)
				checkChosen(t, s, x, rnd.Intn(len(s.rolls)))
			}
		})
	}
	all.Wait()
}

// TestNoGoroutineRemains waits a little, since a goroutine that is done may not have ended yet.
func TestNoGoroutineRemains(t *testing.T) {
	before := runtime.NumGoroutine()
	v, p := variant(24, 12, 3, 6), list(1, 2, 9)
	for range 3 {
		impl.ExpectedRolls(v, p)
		impl.GreedyRolls(v, p)
		impl.RollsDistribution(v, p)
		impl.MostRolls(v, p)
		impl.ChanceWithin(v, p, 3)
		impl.BestResult(v, p, roll(4, 2))
		impl.GreedyResult(v, p, roll(4, 2))
	}
	for range 1000 {
		if runtime.NumGoroutine() <= before {
			return
		}
		time.Sleep(time.Millisecond)
	}
	t.Error(before, runtime.NumGoroutine())
}
