package tests

import (
	"math"
	"math/rand"
	"slices"
	"strconv"
	"strings"
	"sync"
	"testing"

	"loop.example/g00885/impl"
)

// bearoffVariants are variants of which all positions can be listed.
func bearoffVariants() []impl.Variant {
	return []impl.Variant{
		variant(2, 1, 1, 1), variant(2, 15, 1, 6), variant(2, 2, 2, 2), variant(2, 15, 2, 3), variant(4, 3, 3, 3), variant(5, 2, 5, 4),
		variant(6, 4, 4, 6), variant(7, 1, 7, 2), variant(24, 3, 6, 6), variant(24, 2, 9, 5), variant(20, 1, 20, 6), variant(6, 5, 4, 1),
	}
}

// numberedVariants have many positions, but few enough to be numbered.
func numberedVariants() []impl.Variant {
	return []impl.Variant{
		impl.FullVariant(), variant(8, 15, 8, 6), variant(24, 14, 9, 6), variant(24, 6, 24, 5), variant(20, 7, 20, 4), variant(24, 1, 24, 3),
	}
}

// unnumberedVariants have more than 1000000 positions.
func unnumberedVariants() []impl.Variant {
	return []impl.Variant{
		variant(24, 15, 24, 6), variant(9, 15, 9, 6), variant(24, 13, 10, 5), variant(24, 7, 24, 6), variant(21, 7, 21, 2), variant(24, 12, 11, 3),
	}
}

// isBefore compares two positions as the document does: at the greatest index at which they differ.
func isBefore(p, q []int64) bool {
	before := false
	for i := range p {
		if p[i] != q[i] {
			before = p[i] < q[i]
		}
	}
	return before
}

// positionsOf returns all bear-off positions of v in their order.
func positionsOf(v impl.Variant) [][]int64 {
	var positions [][]int64
	eachList(int(v.Home), 0, v.Checkers, func(list []int64) {
		if sumOf(list) <= v.Checkers {
			positions = append(positions, slices.Clone(list))
		}
	})
	slices.SortFunc(positions, func(p, q []int64) int {
		switch {
		case isBefore(p, q):
			return -1
		case isBefore(q, p):
			return 1
		default:
			return 0
		}
	})
	return positions
}

// countByRule returns how many positions there are, even if there are too many to be numbered.
func countByRule(v impl.Variant) int64 { return sideCounts()[v.Home][v.Checkers] }

// numberByRule counts the positions before p: for each index, those that are equal at all greater
// ones and less there.
func numberByRule(v impl.Variant, p []int64) int64 {
	counts := sideCounts()
	number, left := int64(0), v.Checkers
	for i := len(p) - 1; i >= 0; i-- {
		for less := range p[i] {
			number += counts[i][left-less]
		}
		left -= p[i]
	}
	return number
}

// randomPosition has any number of checkers, often all of them, on all points or on a few.
func randomPosition(rnd *rand.Rand, v impl.Variant) []int64 {
	p := make([]int64, v.Home)
	checkers := v.Checkers
	if rnd.Intn(2) == 0 {
		checkers = rnd.Int63n(v.Checkers + 1)
	}
	lowest := rnd.Int63n(v.Home)
	if rnd.Intn(2) == 0 {
		lowest = 0
	}
	for range checkers {
		p[lowest+rnd.Int63n(v.Home-lowest)]++
	}
	return p
}

func checkPosition(t *testing.T, v impl.Variant, p []int64, number int64) {
	t.Helper()
	if !impl.IsBearoff(v, p) {
		t.Errorf("%v: %v is no position", v, p)
	}
	if n, code := impl.BearoffNumber(v, p); n != number || code != impl.ErrNone {
		t.Errorf("%v: %v has the number %d, code %d, not %d", v, p, n, code, number)
	}
	if q, code := impl.BearoffAt(v, number); !slices.Equal(q, p) || code != impl.ErrNone {
		t.Errorf("%v: %d is the number of %v, code %d, not of %v", v, number, q, code, p)
	}
}

func checkNext(t *testing.T, v impl.Variant, p, want []int64) {
	t.Helper()
	if next, code := impl.NextBearoff(v, p); !slices.Equal(next, want) || code != impl.ErrNone {
		t.Errorf("%v: %v is followed by %v, code %d, not by %v", v, p, next, code, want)
	}
}

func refuseNext(t *testing.T, v impl.Variant, p []int64, want int64) {
	t.Helper()
	if next, code := impl.NextBearoff(v, p); len(next) != 0 || code != want {
		t.Errorf("%v: %v is followed by %v, code %d, not %d", v, p, next, code, want)
	}
}

func TestLimitOfTables(t *testing.T) {
	if impl.MaxTable != 500 {
		t.Error(impl.MaxTable)
	}
}

func TestNumbersOfPositions(t *testing.T) {
	eachVariant(func(v impl.Variant) {
		want := countByRule(v)
		if want > 1000000 {
			want = -1
		}
		if n := impl.BearoffCount(v); n != want {
			t.Errorf("%v: %d positions, not %d", v, n, want)
		}
	})
	for _, v := range bearoffVariants() {
		if n := impl.BearoffCount(v); n != int64(len(positionsOf(v))) {
			t.Errorf("%v: %d positions", v, n)
		}
	}
	for _, v := range invalidVariants() {
		if n := impl.BearoffCount(v); n != -1 {
			t.Errorf("%v: %d positions", v, n)
		}
	}
}

// TestExamplesOfNumbersOfPositions has the greatest numbers below the limit, and those just above it.
func TestExamplesOfNumbersOfPositions(t *testing.T) {
	for _, c := range []struct {
		home, checkers, want int64
	}{
		{6, 15, 54264}, {1, 1, 2}, {1, 15, 16}, {24, 1, 25}, {2, 2, 6}, {2, 15, 136}, {7, 15, 170544}, {8, 15, 490314}, {9, 14, 817190},
		{20, 7, 888030}, {24, 6, 593775}, {9, 15, -1}, {10, 13, -1}, {21, 7, -1}, {24, 7, -1}, {24, 15, -1},
	} {
		for _, points := range list(max(2, c.home), 24) {
			for sides := int64(1); sides <= 6; sides++ {
				if n := impl.BearoffCount(variant(points, c.checkers, c.home, sides)); n != c.want {
					t.Errorf("%d home points, %d checkers: %d positions, not %d", c.home, c.checkers, n, c.want)
				}
			}
		}
	}
}

// TestPositionsCorrespondToNumbers checks the first part of promise 10 on all positions of variants.
func TestPositionsCorrespondToNumbers(t *testing.T) {
	for _, v := range bearoffVariants() {
		positions := positionsOf(v)
		for number, p := range positions {
			checkPosition(t, v, p, int64(number))
			if number > 0 {
				checkNext(t, v, positions[number-1], p)
			}
		}
		refuseNext(t, v, positions[len(positions)-1], impl.ErrNotFound)
	}
}

func TestExamplesOfPositions(t *testing.T) {
	v := variant(6, 2, 2, 2)
	for number, p := range [][]int64{{0, 0}, {1, 0}, {2, 0}, {0, 1}, {1, 1}, {0, 2}} {
		checkPosition(t, v, p, int64(number))
	}
	full := impl.FullVariant()
	checkPosition(t, full, list(0, 0, 0, 0, 0, 15), 54263)
	checkPosition(t, full, list(0, 0, 0, 0, 1, 14), 54262)
	checkPosition(t, full, list(1, 0, 0, 0, 0, 14), 54258)
	checkPosition(t, full, list(0, 0, 0, 0, 0, 14), 54257)
	checkPosition(t, full, list(0, 0, 0, 0, 0, 1), 15504)
	checkPosition(t, full, list(0, 0, 0, 0, 15, 0), 15503)
	checkPosition(t, full, list(0, 1, 0, 0, 0, 0), 16)
	checkNext(t, full, list(0, 0, 0, 0, 15, 0), list(0, 0, 0, 0, 0, 1))
	checkNext(t, full, list(0, 3, 0, 0, 12, 0), list(0, 0, 1, 0, 12, 0))
	checkNext(t, full, list(0, 3, 0, 0, 11, 0), list(1, 3, 0, 0, 11, 0))
	checkNext(t, full, list(1, 0, 0, 0, 0, 14), list(0, 1, 0, 0, 0, 14))
}

// TestWalkOverAllPositions follows the order from the first position of the full game to the last.
func TestWalkOverAllPositions(t *testing.T) {
	v := impl.FullVariant()
	p := make([]int64, 6)
	for number := range int64(54263) {
		checkPosition(t, v, p, number)
		next, code := impl.NextBearoff(v, p)
		if code != impl.ErrNone || len(next) != 6 || slices.Min(next) < 0 || sumOf(next) > 15 || !isBefore(p, next) {
			t.Fatal(p, next, code)
		}
		p = next
	}
	checkPosition(t, v, p, 54263)
	refuseNext(t, v, p, impl.ErrNotFound)
}

func TestNumbersOfManyPositions(t *testing.T) {
	rnd := rand.New(rand.NewSource(10))
	for _, v := range numberedVariants() {
		for range 2000 {
			p := randomPosition(rnd, v)
			checkPosition(t, v, p, numberByRule(v, p))
			number := rnd.Int63n(countByRule(v))
			q, code := impl.BearoffAt(v, number)
			if code != impl.ErrNone || int64(len(q)) != v.Home || slices.Min(q) < 0 || sumOf(q) > v.Checkers || numberByRule(v, q) != number {
				t.Fatal(v, number, q, code)
			}
		}
	}
}

// TestFirstAndLastPositions has those of all variants.
func TestFirstAndLastPositions(t *testing.T) {
	eachVariant(func(v impl.Variant) {
		if v.Sides != 1 || v.Points != max(2, v.Home) {
			return
		}
		size := int(v.Home)
		first, last := make([]int64, size), filled(size, map[int]int64{size - 1: v.Checkers})
		if n := countByRule(v); n <= 1000000 {
			checkPosition(t, v, first, 0)
			checkPosition(t, v, filled(size, map[int]int64{0: v.Checkers}), v.Checkers)
			checkPosition(t, v, last, n-1)
		}
		checkNext(t, v, first, filled(size, map[int]int64{0: 1}))
		refuseNext(t, v, last, impl.ErrNotFound)
		for i := range size - 1 {
			checkNext(t, v, filled(size, map[int]int64{i: v.Checkers}), filled(size, map[int]int64{i + 1: 1}))
		}
	})
}

// TestPositionsAfterMany has variants with too many positions to be numbered, too.
func TestPositionsAfterMany(t *testing.T) {
	rnd := rand.New(rand.NewSource(11))
	for _, v := range append(numberedVariants(), unnumberedVariants()...) {
		for range 3000 {
			p := randomPosition(rnd, v)
			number := numberByRule(v, p)
			if number == countByRule(v)-1 {
				refuseNext(t, v, p, impl.ErrNotFound)
				continue
			}
			next, code := impl.NextBearoff(v, p)
			if code != impl.ErrNone || int64(len(next)) != v.Home || slices.Min(next) < 0 || sumOf(next) > v.Checkers || numberByRule(v, next) != number+1 {
				t.Fatal(v, p, next, code)
			}
		}
	}
}

func refuseBearoffNumber(t *testing.T, v impl.Variant, number, want int64) {
	t.Helper()
	if p, code := impl.BearoffAt(v, number); len(p) != 0 || code != want {
		t.Errorf("%v: %d is the number of %v, code %d, not %d", v, number, p, code, want)
	}
}

func TestNoSuchPosition(t *testing.T) {
	far := list(-1, -2, -1<<32, math.MinInt64, 1000000, 1000001, 1<<32, math.MaxInt64)
	eachVariant(func(v impl.Variant) {
		if v.Points != max(2, v.Home) || v.Sides > 2 {
			return
		}
		if n := countByRule(v); n > 1000000 {
			for _, number := range append(far, 0, 1, n-1, n, n+1) {
				refuseBearoffNumber(t, v, number, impl.ErrLimit)
			}
			return
		}
		for _, number := range append(far, countByRule(v), countByRule(v)+1) {
			refuseBearoffNumber(t, v, number, impl.ErrNotFound)
		}
	})
	for _, v := range invalidVariants() {
		for _, number := range append(far, 0, 1) {
			refuseBearoffNumber(t, v, number, impl.ErrInvalid)
		}
	}
}

// TestTooManyPositions checks that a position is looked at before the number of positions.
func TestTooManyPositions(t *testing.T) {
	rnd := rand.New(rand.NewSource(12))
	for _, v := range unnumberedVariants() {
		for _, p := range [][]int64{make([]int64, v.Home), randomPosition(rnd, v), randomPosition(rnd, v)} {
			if n, code := impl.BearoffNumber(v, p); n != 0 || code != impl.ErrLimit {
				t.Errorf("%v: %v has the number %d, code %d", v, p, n, code)
			}
			if !impl.IsBearoff(v, p) || impl.BearoffText(v, p) == "" {
				t.Errorf("%v: %v is no position", v, p)
			}
		}
		for _, p := range [][]int64{nil, make([]int64, v.Home-1), make([]int64, v.Home+1), filled(int(v.Home), map[int]int64{0: v.Checkers + 1})} {
			if n, code := impl.BearoffNumber(v, p); n != 0 || code != impl.ErrRange {
				t.Errorf("%v: %v has the number %d, code %d", v, p, n, code)
			}
		}
	}
}

func checkBearoffPips(t *testing.T, v impl.Variant, p []int64, want int64) {
	t.Helper()
	if pips, code := impl.BearoffPips(v, p); pips != want || code != impl.ErrNone {
		t.Errorf("%v: %v has %d pips, code %d, not %d", v, p, pips, code, want)
	}
}

// pipsByRule adds up the distances of the checkers, one after the other.
func pipsByRule(p []int64) int64 { return sumOf(distancesOf(p)) }

// distancesOf returns, for each checker, how many pips it is from bearing off, in rising order.
func distancesOf(p []int64) []int64 {
	distances := placesOf(p)
	for i := range distances {
		distances[i]++
	}
	return distances
}

func TestPipsOfPositions(t *testing.T) {
	for _, v := range bearoffVariants() {
		for _, p := range positionsOf(v) {
			checkBearoffPips(t, v, p, pipsByRule(p))
		}
	}
	rnd := rand.New(rand.NewSource(13))
	for _, v := range append(numberedVariants(), unnumberedVariants()...) {
		for range 500 {
			p := randomPosition(rnd, v)
			checkBearoffPips(t, v, p, pipsByRule(p))
		}
	}
	checkBearoffPips(t, impl.FullVariant(), list(0, 0, 0, 0, 0, 0), 0)
	checkBearoffPips(t, impl.FullVariant(), list(1, 2, 3, 2, 1, 4), 51)
	checkBearoffPips(t, variant(24, 15, 24, 6), filled(24, map[int]int64{23: 15}), 360)
}

// playEnd is what remains after a play, and the number of its steps.
type playEnd struct {
	distances []int64
	steps     int
}

// playEnds makes every step that is possible with the first die, and goes on with the others.
func playEnds(distances, dice []int64, steps int) []playEnd {
	ends := []playEnd{}
	if len(dice) > 0 {
		for i, far := range distances {
			if i > 0 && distances[i-1] == far {
				continue
			}
			left := slices.Delete(slices.Clone(distances), i, i+1)
			switch die := dice[0]; {
			case die < far:
				left = append(left, far-die)
				slices.Sort(left)
			case die > far && slices.Max(distances) > far:
				continue
			}
			ends = append(ends, playEnds(left, dice[1:], steps+1)...)
		}
	}
	if len(ends) == 0 {
		return []playEnd{{distances, steps}}
	}
	return ends
}

func positionOf(v impl.Variant, distances []int64) []int64 {
	p := make([]int64, v.Home)
	for _, far := range distances {
		p[far-1]++
	}
	return p
}

// resultsByRule keeps the plays with as many steps as possible. It names the results, in order, by
// their numbers.
func resultsByRule(v impl.Variant, p []int64, r impl.Roll) [][]int64 {
	var ends []playEnd
	most := 0
	for _, dice := range ordersByRule(r) {
		for _, end := range playEnds(distancesOf(p), dice, 0) {
			ends = append(ends, end)
			most = max(most, end.steps)
		}
	}
	results := map[int64][]int64{}
	var numbers []int64
	for _, end := range ends {
		q := positionOf(v, end.distances)
		n := numberByRule(v, q)
		if end.steps == most && results[n] == nil {
			results[n] = q
			numbers = append(numbers, n)
		}
	}
	slices.Sort(numbers)
	var list [][]int64
	for _, n := range numbers {
		list = append(list, results[n])
	}
	return list
}

func samePositions(list, other [][]int64) bool {
	return slices.EqualFunc(list, other, slices.Equal[[]int64])
}

func checkResults(t *testing.T, v impl.Variant, p []int64, r impl.Roll, want [][]int64) {
	t.Helper()
	if got, code := impl.BearoffResults(v, p, r); code != impl.ErrNone || !samePositions(got, want) {
		t.Errorf("%v: %v with %v leads to %v, code %d, not to %v", v, p, r, got, code, want)
	}
}

// TestResultsOfRolls has all positions and rolls of variants.
func TestResultsOfRolls(t *testing.T) {
	for _, v := range bearoffVariants() {
		for _, p := range positionsOf(v) {
			for _, r := range rollsByRule(v) {
				checkResults(t, v, p, r, resultsByRule(v, p, r))
			}
		}
	}
}

func TestResultsOfManyPositions(t *testing.T) {
	rnd := rand.New(rand.NewSource(14))
	for _, v := range append(numberedVariants(), unnumberedVariants()...) {
		rolls := rollsByRule(v)
		for range 60 {
			p, r := randomPosition(rnd, v), rolls[rnd.Intn(len(rolls))]
			if r.A == r.B && len(distancesOf(p)) > 9 {
				r = rolls[1] // a double with many checkers has too many plays to be listed without skipping any
			}
			checkResults(t, v, p, r, resultsByRule(v, p, r))
		}
	}
}

// boardOf returns a board with a position as the checkers of the owner and one checker of the other
// player, behind all of them.
func boardOf(v impl.Variant, p []int64) impl.Board {
	return impl.Board{Own: append(slices.Clone(p), make([]int64, v.Points+1-v.Home)...), Other: filled(int(v.Points)+1, map[int]int64{0: 1})}
}

// checkResultsOnBoard compares the results with the boards after all plays of chapter 5.
func checkResultsOnBoard(t *testing.T, v impl.Variant, p []int64, r impl.Roll) {
	t.Helper()
	results, code := impl.BearoffResults(v, p, r)
	plays, playCode := impl.AllPlays(v, boardOf(v, p), r)
	if code != impl.ErrNone || playCode != impl.ErrNone || len(plays) != len(results) {
		t.Fatalf("%v: %v with %v: %d results, code %d, but %d plays, code %d", v, p, r, len(results), code, len(plays), playCode)
	}
	for i, q := range results {
		if i > 0 && !isBefore(results[i-1], q) {
			t.Errorf("%v: %v with %v: %v is not before %v", v, p, r, results[i-1], q)
		}
		if !slices.ContainsFunc(plays, func(play impl.Play) bool { return sameBoard(play.Board, boardOf(v, q)) }) {
			t.Errorf("%v: %v with %v: no play leads to %v", v, p, r, q)
		}
	}
}

// TestResultsAreThoseOfThePlays checks the second part of promise 10.
func TestResultsAreThoseOfThePlays(t *testing.T) {
	for _, v := range bearoffVariants() {
		if v.Home == v.Points {
			continue
		}
		for _, p := range positionsOf(v) {
			for _, r := range rollsByRule(v) {
				checkResultsOnBoard(t, v, p, r)
			}
		}
	}
	rnd := rand.New(rand.NewSource(15))
	for _, v := range []impl.Variant{impl.FullVariant(), variant(24, 15, 23, 6), variant(13, 9, 12, 4), variant(24, 12, 16, 1)} {
		rolls := rollsByRule(v)
		for range 60 {
			checkResultsOnBoard(t, v, randomPosition(rnd, v), rolls[rnd.Intn(len(rolls))])
		}
	}
}

// TestHighestPointOnTheBoard has checkers of the owner on all points of the board, save the one on
// which the other player still has a checker.
func TestHighestPointOnTheBoard(t *testing.T) {
	v := variant(5, 2, 5, 4)
	for _, p := range positionsOf(v) {
		if p[4] > 0 {
			continue
		}
		for _, r := range rollsByRule(v) {
			results, _ := impl.BearoffResults(v, p, r)
			plays, code := impl.AllPlays(v, boardOf(v, p), r)
			if code != impl.ErrNone || len(plays) != len(results) {
				t.Errorf("%v with %v: %v, but %v, code %d", p, r, results, plays, code)
			}
		}
	}
}

// TestResultsHaveSmallerNumbers checks the guarantee of the chapter.
func TestResultsHaveSmallerNumbers(t *testing.T) {
	rnd := rand.New(rand.NewSource(16))
	for _, v := range append(append(numberedVariants(), unnumberedVariants()...), bearoffVariants()...) {
		for range 20 {
			p := randomPosition(rnd, v)
			for _, r := range rollsByRule(v) {
				results, code := impl.BearoffResults(v, p, r)
				if code != impl.ErrNone || len(results) == 0 {
					t.Fatalf("%v: %v with %v: code %d", v, p, r, code)
				}
				for _, q := range results {
					if int64(len(q)) != v.Home || slices.Min(q) < 0 || sumOf(q) > sumOf(p) || !isBefore(q, p) && sumOf(p) > 0 {
						t.Errorf("%v: %v with %v leads to %v", v, p, r, q)
					}
				}
			}
		}
	}
}

func TestExamplesOfResultsOfRolls(t *testing.T) {
	full := impl.FullVariant()
	for _, c := range []struct {
		v    impl.Variant
		p    []int64
		r    impl.Roll
		want [][]int64
	}{
		{variant(6, 2, 3, 2), list(0, 0, 1), roll(2, 1), [][]int64{{0, 0, 0}}},
		{variant(6, 2, 2, 2), list(0, 2), roll(2, 1), [][]int64{{1, 0}}},
		{variant(6, 2, 3, 3), list(0, 0, 1), roll(3, 2), [][]int64{{0, 0, 0}}},
		{variant(6, 2, 3, 3), list(0, 1, 1), roll(2, 1), [][]int64{{2, 0, 0}, {0, 1, 0}}},
		{variant(6, 2, 3, 3), list(1, 0, 1), roll(2, 1), [][]int64{{1, 0, 0}}},
		{full, list(0, 0, 0, 0, 0, 0), roll(6, 5), [][]int64{{0, 0, 0, 0, 0, 0}}},
		{full, list(0, 0, 0, 0, 0, 0), roll(3, 3), [][]int64{{0, 0, 0, 0, 0, 0}}},
		{full, list(1, 0, 0, 0, 0, 0), roll(6, 6), [][]int64{{0, 0, 0, 0, 0, 0}}},
		{full, list(3, 0, 0, 0, 0, 0), roll(6, 5), [][]int64{{1, 0, 0, 0, 0, 0}}},
		{full, list(5, 0, 0, 0, 0, 0), roll(1, 1), [][]int64{{1, 0, 0, 0, 0, 0}}},
		{full, list(0, 0, 0, 0, 0, 5), roll(6, 6), [][]int64{{0, 0, 0, 0, 0, 1}}},
		{full, list(0, 0, 0, 0, 0, 5), roll(5, 5), [][]int64{{4, 0, 0, 0, 0, 1}}},
		{full, list(0, 0, 0, 2, 0, 0), roll(5, 3), [][]int64{{1, 0, 0, 0, 0, 0}}},
		{full, list(0, 0, 0, 1, 0, 1), roll(4, 2), [][]int64{{0, 2, 0, 0, 0, 0}, {0, 0, 0, 1, 0, 0}}},
		{full, list(0, 1, 0, 0, 0, 1), roll(3, 2), [][]int64{{1, 1, 0, 0, 0, 0}, {0, 0, 1, 0, 0, 0}}},
		{full, list(0, 0, 0, 0, 1, 1), roll(6, 1), [][]int64{{0, 0, 0, 1, 0, 0}, {0, 0, 0, 0, 1, 0}}},
		{variant(8, 1, 8, 1), list(0, 0, 0, 0, 0, 0, 0, 1), roll(1, 1), [][]int64{{0, 0, 0, 1, 0, 0, 0, 0}}},
		{variant(2, 5, 1, 1), list(5), roll(1, 1), [][]int64{{1}}},
	} {
		checkResults(t, c.v, c.p, c.r, c.want)
	}
}

// TestManyResults has a double with which every four steps of fifteen checkers can be made.
func TestManyResults(t *testing.T) {
	v := variant(24, 15, 24, 6)
	p := filled(24, map[int]int64{})
	for i := range 15 {
		p[9+i] = 1
	}
	checkResultsByNumbers(t, v, p, roll(1, 1))
	checkResultsByNumbers(t, v, p, roll(6, 6))
	checkResultsByNumbers(t, v, slices.Repeat(list(1, 0, 0, 2), 6)[:20:20], roll(2, 2))
	checkResultsByNumbers(t, impl.FullVariant(), list(3, 3, 3, 2, 2, 2), roll(1, 1))
}

// checkResultsByNumbers finds the results of a double by how many steps are made from each distance,
// and by their numbers. It needs a position from which no checker is borne off by a greater die.
func checkResultsByNumbers(t *testing.T, v impl.Variant, p []int64, r impl.Roll) {
	t.Helper()
	for int64(len(p)) < v.Home {
		p = append(p, 0)
	}
	found := map[int64][]int64{}
	var further func(q []int64, steps int)
	further = func(q []int64, steps int) {
		n := numberByRule(v, q)
		if steps == 0 {
			found[n] = slices.Clone(q)
			return
		}
		for i := range q {
			if q[i] == 0 || int64(i+1) < r.A {
				continue
			}
			q[i]--
			if k := int64(i) - r.A; k >= 0 {
				q[k]++
				further(q, steps-1)
				q[k]--
			} else {
				further(q, steps-1)
			}
			q[i]++
		}
	}
	further(slices.Clone(p), 4)
	var numbers []int64
	for n := range found {
		numbers = append(numbers, n)
	}
	slices.Sort(numbers)
	var want [][]int64
	for _, n := range numbers {
		want = append(want, found[n])
	}
	checkResults(t, v, p, r, want)
}

func refuseResults(t *testing.T, v impl.Variant, p []int64, r impl.Roll, want int64) {
	t.Helper()
	if got, code := impl.BearoffResults(v, p, r); len(got) != 0 || code != want {
		t.Errorf("%v: %v with %v leads to %v, code %d, not %d", v, p, r, got, code, want)
	}
}

func TestResultsOfNoRoll(t *testing.T) {
	rnd := rand.New(rand.NewSource(17))
	for _, v := range slices.Concat(bearoffVariants(), numberedVariants(), unnumberedVariants()) {
		for _, p := range [][]int64{make([]int64, v.Home), randomPosition(rnd, v)} {
			for _, r := range strangeRolls(v.Sides) {
				refuseResults(t, v, p, r, impl.ErrRange)
			}
		}
	}
}

// noPositions returns lists that are not positions of v, for various reasons.
func noPositions(v impl.Variant) [][]int64 {
	const least, most = math.MinInt64, math.MaxInt64
	size := int(v.Home)
	lists := [][]int64{nil, {}, make([]int64, size-1), make([]int64, size+1), make([]int64, v.Points+1), make([]int64, 100)}
	lists = slices.DeleteFunc(lists, func(p []int64) bool { return len(p) == size })
	for i := range size {
		for _, n := range list(-1, v.Checkers+1, v.Checkers+2, 1<<32, 1<<32+1, least, least+1, most) {
			lists = append(lists, filled(size, map[int]int64{i: n}))
			k := (i + 1) % size
			if k != i {
				lists = append(lists, filled(size, map[int]int64{i: n, k: 1}), filled(size, map[int]int64{i: n, k: -n}), filled(size, map[int]int64{i: n, k: n}))
			}
		}
		if k := (i + size - 1) % size; k != i {
			lists = append(lists, filled(size, map[int]int64{i: v.Checkers, k: 1}), filled(size, map[int]int64{i: v.Checkers + 1, k: -1}))
		}
	}
	return append(lists, slices.Repeat(list(most), size), slices.Repeat(list(least), size), slices.Repeat(list(1<<62), 24)[:size])
}

// refusePosition checks what every function returns for p, whatever else it is given.
func refusePosition(t *testing.T, v impl.Variant, p []int64, want int64) {
	t.Helper()
	if impl.IsBearoff(v, p) || impl.BearoffText(v, p) != "" {
		t.Errorf("%v: %v is a position, or has the text %q", v, p, impl.BearoffText(v, p))
	}
	if n, code := impl.BearoffNumber(v, p); n != 0 || code != want {
		t.Errorf("%v: %v has the number %d, code %d, not %d", v, p, n, code, want)
	}
	if n, code := impl.BearoffPips(v, p); n != 0 || code != want {
		t.Errorf("%v: %v has %d pips, code %d, not %d", v, p, n, code, want)
	}
	refuseNext(t, v, p, want)
	for _, r := range []impl.Roll{roll(1, 1), roll(2, 1), roll(1, 2), roll(7, 7), {}} {
		refuseResults(t, v, p, r, want)
	}
}

func TestNoPositions(t *testing.T) {
	for _, v := range slices.Concat(bearoffVariants(), numberedVariants(), unnumberedVariants()) {
		for _, p := range noPositions(v) {
			refusePosition(t, v, p, impl.ErrRange)
		}
	}
	for _, v := range []impl.Variant{variant(2, 1, 1, 1), variant(2, 2, 2, 2), variant(4, 3, 3, 3)} {
		eachList(int(v.Home), -2, v.Checkers+2, func(p []int64) {
			if valid := slices.Min(p) >= 0 && sumOf(p) <= v.Checkers; !valid {
				refusePosition(t, v, p, impl.ErrRange)
			} else if !impl.IsBearoff(v, p) {
				t.Errorf("%v: %v is no position", v, p)
			}
		})
	}
}

func TestPositionsOfInvalidVariants(t *testing.T) {
	for _, v := range invalidVariants() {
		for _, size := range []int{0, 1, 2, 3, 6, 24, 25} {
			refusePosition(t, v, make([]int64, size), impl.ErrInvalid)
			refusePosition(t, v, slices.Repeat(list(-1), size), impl.ErrInvalid)
		}
		for _, text := range []string{"", "0", "0,0", "0,0,0", "0,0,0,0,0,0", "1", "-1", "x"} {
			refuseBearoffText(t, v, text)
		}
	}
}

func positionTextByRule(p []int64) string {
	text := ""
	for _, n := range p {
		text += "," + strconv.Itoa(int(n))
	}
	return text[1:]
}

func checkReadBearoff(t *testing.T, v impl.Variant, texts map[string][]int64, text string) {
	t.Helper()
	want, ok := texts[text]
	if p, read := impl.ReadBearoff(v, text); read != ok || !slices.Equal(p, want) {
		t.Errorf("%v: %.80q is read as %v, %v, not as %v, %v", v, text, p, read, want, ok)
	}
}

func refuseBearoffText(t *testing.T, v impl.Variant, text string) {
	t.Helper()
	checkReadBearoff(t, v, nil, text)
}

func textsOfPositions(v impl.Variant) map[string][]int64 {
	texts := map[string][]int64{}
	for _, p := range positionsOf(v) {
		texts[positionTextByRule(p)] = p
	}
	return texts
}

func TestPositionsRecovered(t *testing.T) {
	check := func(v impl.Variant, p []int64) {
		text := positionTextByRule(p)
		if got := impl.BearoffText(v, p); got != text {
			t.Errorf("%v: %v has the text %q, not %q", v, p, got, text)
		}
		checkReadBearoff(t, v, map[string][]int64{text: p}, text)
	}
	for _, v := range bearoffVariants() {
		for _, p := range positionsOf(v) {
			check(v, p)
		}
	}
	rnd := rand.New(rand.NewSource(18))
	for _, v := range append(numberedVariants(), unnumberedVariants()...) {
		for range 500 {
			check(v, randomPosition(rnd, v))
		}
	}
}

func TestExamplesOfPositionTexts(t *testing.T) {
	for _, c := range []struct {
		v    impl.Variant
		text string
		p    []int64
	}{
		{impl.FullVariant(), "0,0,0,0,0,0", list(0, 0, 0, 0, 0, 0)},
		{impl.FullVariant(), "1,2,3,2,1,4", list(1, 2, 3, 2, 1, 4)},
		{impl.FullVariant(), "0,0,0,0,0,15", list(0, 0, 0, 0, 0, 15)},
		{variant(2, 15, 1, 1), "10", list(10)},
		{variant(6, 2, 3, 2), "0,0,1", list(0, 0, 1)},
	} {
		if got := impl.BearoffText(c.v, c.p); got != c.text {
			t.Errorf("%v: %v has the text %q", c.v, c.p, got)
		}
		checkReadBearoff(t, c.v, map[string][]int64{c.text: c.p}, c.text)
	}
}

// TestAllShortPositionTexts reads all texts of up to six of the bytes that matter.
func TestAllShortPositionTexts(t *testing.T) {
	const bytes = "012,-+ "
	for _, v := range []impl.Variant{variant(2, 2, 1, 1), variant(2, 12, 1, 1), variant(3, 2, 2, 1), variant(3, 1, 3, 1), variant(24, 15, 2, 6)} {
		texts := textsOfPositions(v)
		for size := range 7 {
			eachList(size, 0, int64(len(bytes))-1, func(places []int64) {
				var text strings.Builder
				for _, i := range places {
					text.WriteByte(bytes[i])
				}
				checkReadBearoff(t, v, texts, text.String())
			})
		}
	}
}

func TestChangedPositionTexts(t *testing.T) {
	for _, v := range []impl.Variant{variant(2, 15, 1, 1), variant(4, 3, 3, 3), variant(20, 1, 20, 6), variant(2, 15, 2, 3)} {
		texts := textsOfPositions(v)
		for text := range texts {
			bytes := allBytes()
			if len(texts) > 20 {
				bytes = "0129,/ -+x\x00"
			}
			eachChange(text, bytes, func(s string) { checkReadBearoff(t, v, texts, s) })
		}
	}
}

func TestTextsOfNoPosition(t *testing.T) {
	for _, v := range slices.Concat(bearoffVariants(), numberedVariants(), unnumberedVariants()) {
		size := int(v.Home)
		zeros := strings.Repeat("0,", size-1)
		for _, text := range []string{
			"", ",", zeros, zeros + ",", zeros + "0,", "," + zeros + "0", zeros + "0,0", zeros + "00", zeros + "01", zeros + "+1", zeros + "-1", zeros + "-0",
			zeros + " 0", zeros + "0 ", zeros + "0\n", zeros + "0\x00", "\x00" + zeros + "0", zeros + "x", zeros + "0x0", zeros + "0b1", zeros + "0_0", zeros + "1.0",
			zeros + "1e0", zeros + "16", zeros + "100", zeros + "4294967296", zeros + "4294967297", zeros + "18446744073709551616", zeros + "18446744073709551617",
			zeros + "9223372036854775807", zeros + "-9223372036854775808", zeros + "9223372036854775808", zeros + "٠", zeros + "０", zeros + "\xff",
			zeros + strings.Repeat("0", 100000), zeros + strings.Repeat("9", 100000), strings.Repeat("0,", 100000) + "0", strings.Repeat(",", 100000),
			strings.Repeat("-", 100000), strings.ReplaceAll(zeros, ",", ";") + ";0", "[" + zeros + "0]", strings.ReplaceAll(zeros, ",", ", ") + " 0",
			zeros + strconv.FormatInt(v.Checkers+1, 10),
		} {
			refuseBearoffText(t, v, text)
		}
		if size > 1 {
			full := strconv.FormatInt(v.Checkers, 10)
			for _, text := range []string{full + "," + strings.Repeat("0,", size-2) + "1", "1," + strings.Repeat("0,", size-2) + full} {
				refuseBearoffText(t, v, text)
			}
		}
	}
}

// TestPositionsAreNotChanged gives positions in a memory that is larger, and overwrites each result
// before it looks at the next one.
func TestPositionsAreNotChanged(t *testing.T) {
	v := variant(6, 3, 3, 3)
	for _, p := range [][]int64{{0, 0, 0}, {1, 0, 1}, {0, 0, 3}, {0, 2, 1}, {3, 0, 0}} {
		memory := append(slices.Clone(p), 77, 88, 99)
		before := slices.Clone(memory)
		given := memory[:3]
		for range 2 { // nothing is kept from the first time
			number, _ := impl.BearoffNumber(v, given)
			at, _ := impl.BearoffAt(v, number)
			checkPosition(t, v, given, numberByRule(v, p))
			overwrite(at)
			next, _ := impl.NextBearoff(v, given)
			overwrite(next)
			read, _ := impl.ReadBearoff(v, impl.BearoffText(v, given))
			overwrite(read)
			checkBearoffPips(t, v, given, pipsByRule(p))
			for _, r := range rollsByRule(v) {
				want := resultsByRule(v, p, r)
				results, code := impl.BearoffResults(v, given, r)
				if code != impl.ErrNone || len(results) != len(want) {
					t.Fatal(p, r, results, code)
				}
				for i, q := range results {
					if !slices.Equal(q, want[i]) {
						t.Errorf("%v with %v: result %d is %v, not %v", p, r, i, q, want[i])
					}
					overwrite(q)
				}
				clear(results)
			}
			if !slices.Equal(memory, before) {
				t.Fatal(memory, before)
			}
		}
	}
}

// overwrite spoils a list and the memory behind it.
func overwrite(p []int64) {
	for i := range p[:cap(p)] {
		p[:cap(p)][i] = -9
	}
}

// TestPositionsAtTheSameTime calls the functions for several variants at once, and again.
func TestPositionsAtTheSameTime(t *testing.T) {
	var all sync.WaitGroup
	for i, v := range slices.Repeat(bearoffVariants()[2:8], 2) {
		all.Go(func() {
			rnd := rand.New(rand.NewSource(int64(i)))
			for range 20 {
				p := randomPosition(rnd, v)
				checkPosition(t, v, p, numberByRule(v, p))
				for _, r := range rollsByRule(v) {
					checkResults(t, v, p, r, resultsByRule(v, p, r))
				}
			}
		})
	}
	all.Wait()
}
