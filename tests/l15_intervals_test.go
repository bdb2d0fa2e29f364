package tests

import (
	"fmt"
	"math"
	"math/big"
	"math/rand"
	"slices"
	"sync"
	"testing"

	"loop.example/g00885/impl"
)

// A spread has the ends of an interval as ratios.
type spread struct {
	low, high *big.Rat
}

func sureSpread(x *big.Rat) spread { return spread{low: x, high: x} }

// reversed returns the spread of the chance of the other player.
func (x spread) reversed() spread {
	return spread{low: difference(ratio(1, 1), x.high), high: difference(ratio(1, 1), x.low)}
}

func (x spread) width() *big.Rat { return difference(x.high, x.low) }

// A spreadSolution finds the spreads of boards by the definition, with the plays by the rule, and keeps
// plays and spreads for the next time.
type spreadSolution struct {
	v     impl.Variant
	races *raceSolution
	ends  map[string][]impl.Board
	known map[string]spread
}

func solveSpreads(v impl.Variant) *spreadSolution {
	return &spreadSolution{v: v, races: solveRaces(v), ends: map[string][]impl.Board{}, known: map[string]spread{}}
}

// endsOf returns the boards after the plays of a roll, in the order of plays.
func (s *spreadSolution) endsOf(b impl.Board, r impl.Roll) []impl.Board {
	key := fmt.Sprint(bitsText(b), r)
	if s.ends[key] == nil {
		plays, _ := playsByRule(s.v, b, r)
		for _, p := range plays {
			s.ends[key] = append(s.ends[key], p.Board)
		}
	}
	return s.ends[key]
}

// chanceByRule expects a solved board.
func (s *spreadSolution) chanceByRule(b impl.Board) *big.Rat {
	switch {
	case sumOf(b.Own) == 0:
		return ratio(1, 1)
	case sumOf(b.Other) == 0:
		return ratio(0, 1)
	default:
		return s.races.win(int(numberByRule(s.v, b.Own[:s.v.Home])), int(numberByRule(s.v, b.Other[:s.v.Home])))
	}
}

func (s *spreadSolution) of(b impl.Board, turns int64) spread {
	key := fmt.Sprint(bitsText(b), turns)
	x, found := s.known[key]
	if !found {
		x = s.spreadByRule(b, turns)
		s.known[key] = x
	}
	return x
}

func (s *spreadSolution) spreadByRule(b impl.Board, turns int64) spread {
	if solvedByRule(s.v, b) {
		return sureSpread(s.chanceByRule(b))
	}
	if turns == 0 {
		return spread{low: ratio(0, 1), high: ratio(1, 1)}
	}
	mean := spread{low: new(big.Rat), high: new(big.Rat)}
	for i, r := range s.races.rolls {
		low, high := ratio(-1, 1), ratio(-1, 1)
		for _, x := range s.afterPlays(b, r, turns-1) {
			low, high = greaterRatio(low, x.low), greaterRatio(high, x.high)
		}
		weight := s.races.weight(i)
		mean.low.Add(mean.low, new(big.Rat).Mul(weight, low))
		mean.high.Add(mean.high, new(big.Rat).Mul(weight, high))
	}
	return mean
}

func greaterRatio(x, y *big.Rat) *big.Rat {
	if x.Cmp(y) < 0 {
		return y
	}
	return x
}

func (s *spreadSolution) afterPlays(b impl.Board, r impl.Roll, turns int64) []spread {
	var list []spread
	for _, end := range s.endsOf(b, r) {
		list = append(list, s.of(swapped(end), turns).reversed())
	}
	return list
}

func (s *spreadSolution) interval(x spread) impl.Interval {
	low, lowCode := exactByRule(s.v.Sides, x.low)
	high, highCode := exactByRule(s.v.Sides, x.high)
	if lowCode != impl.ErrNone || highCode != impl.ErrNone {
		panic("a spread of a small variant has no valid Exact")
	}
	return impl.Interval{Low: low, High: high}
}

func (s *spreadSolution) spreadOf(x impl.Interval) spread {
	return spread{low: ratioOf(s.v.Sides, x.Low), high: ratioOf(s.v.Sides, x.High)}
}

// solvedByRule expects a valid board.
func solvedByRule(v impl.Variant, b impl.Board) bool {
	if sumOf(b.Own) == 0 || sumOf(b.Other) == 0 {
		return true
	}
	home := slices.Max(placesOf(b.Own)) < v.Home && slices.Max(placesOf(b.Other)) < v.Home
	return home && raceByRule(v, b) && countByRule(v) <= impl.MaxTable
}

// certainByRule returns the first play that is at least as good as every other one, or -1.
func certainByRule(list []spread) int64 {
	for i, x := range list {
		certain := true
		for k, y := range list {
			certain = certain && (k == i || x.low.Cmp(y.high) >= 0)
		}
		if certain {
			return int64(i)
		}
	}
	return -1
}

func worseByRule(list []spread) []int64 {
	var worse []int64
	for i, x := range list {
		for k, y := range list {
			if k != i && x.high.Cmp(y.low) < 0 {
				worse = append(worse, int64(i))
				break
			}
		}
	}
	return worse
}

// checkChance checks the functions for solved boards.
func checkChance(t *testing.T, s *spreadSolution, b impl.Board) {
	t.Helper()
	solved := solvedByRule(s.v, b)
	if impl.IsSolved(s.v, b) != solved {
		t.Errorf("%v: %v is solved: %v", s.v, b, !solved)
	}
	want, wantCode := impl.Exact{}, int64(impl.ErrState)
	if solved {
		want, wantCode = exactByRule(s.v.Sides, s.chanceByRule(b))
	}
	got, code := impl.SolvedChance(s.v, b)
	checkExact(t, s.v, fmt.Sprint("chance of ", b), got, code, want, wantCode)
}

func checkInterval(t *testing.T, s *spreadSolution, b impl.Board, turns int64) {
	t.Helper()
	want := s.of(b, turns)
	got, code := impl.WinInterval(s.v, b, turns)
	if got != s.interval(want) || code != impl.ErrNone {
		t.Errorf("%v: the interval of %v for %d turns is %v, code %d, not %v", s.v, b, turns, got, code, s.interval(want))
	}
	width, wantCode := exactByRule(s.v.Sides, want.width())
	x, code := impl.IntervalWidth(s.v, b, turns)
	checkExact(t, s.v, fmt.Sprint("width of ", b, " for ", turns, " turns"), x, code, width, wantCode)
}

// checkPlayIntervals checks the functions with a roll, and notes what has been there.
func checkPlayIntervals(t *testing.T, s *spreadSolution, b impl.Board, r impl.Roll, turns int64, seen map[string]int) {
	t.Helper()
	what := fmt.Sprintf("%v: %v with %v for %d turns", s.v, b, r, turns)
	list := s.afterPlays(b, r, turns)
	var want []impl.Interval
	for _, x := range list {
		want = append(want, s.interval(x))
	}
	got, code := impl.PlayIntervals(s.v, b, r, turns)
	if !slices.Equal(got, want) || code != impl.ErrNone {
		t.Errorf("%s: %v, code %d, not %v", what, got, code, want)
	}
	certain, certainCode := certainByRule(list), int64(impl.ErrNone)
	if certain < 0 {
		certain, certainCode = 0, impl.ErrNotFound
	}
	if at, code := impl.CertainPlay(s.v, b, r, turns); at != certain || code != certainCode {
		t.Errorf("%s: the certain play is %d, code %d, not %d, code %d", what, at, code, certain, certainCode)
	}
	worse := worseByRule(list)
	if found, code := impl.WorsePlays(s.v, b, r, turns); !slices.Equal(found, worse) || code != impl.ErrNone {
		t.Errorf("%s: worse plays %v, code %d, not %v", what, found, code, worse)
	}
	if len(list) > 1 {
		seen[fmt.Sprint("certain ", min(certain, 1), " code ", certainCode, " worse ", min(len(worse), 2))]++
	}
}

func checkAllIntervals(t *testing.T, s *spreadSolution, b impl.Board, seen map[string]int) {
	t.Helper()
	checkChance(t, s, b)
	for turns := range int64(impl.MaxIntervalTurns + 1) {
		checkInterval(t, s, b, turns)
		for _, r := range s.races.rolls {
			checkPlayIntervals(t, s, b, r, turns, seen)
		}
	}
}

// intervalVariants are small enough for all of their boards. In some the home points of both players
// overlap, or dice go beyond them.
func intervalVariants() []impl.Variant {
	return []impl.Variant{
		variant(2, 1, 1, 1), variant(2, 2, 1, 2), variant(2, 2, 2, 3), variant(2, 3, 1, 3), variant(2, 3, 2, 1), variant(3, 1, 3, 3), variant(3, 2, 1, 3),
		variant(3, 2, 2, 2), variant(3, 2, 3, 2), variant(3, 3, 1, 1), variant(4, 1, 2, 3), variant(4, 2, 2, 2), variant(5, 1, 4, 3), variant(6, 1, 1, 1), variant(6, 1, 2, 3), variant(6, 1, 6, 2),
	}
}

// largeSmallVariants have one number or more that is the greatest of small variants.
func largeSmallVariants() []impl.Variant {
	var list []impl.Variant
	for home := int64(1); home <= 6; home++ {
		for sides := int64(1); sides <= 3; sides++ {
			list = append(list, variant(6, 3, home, sides))
		}
	}
	return append(list, variant(5, 3, 2, 3), variant(4, 3, 2, 2), variant(3, 3, 2, 3), variant(6, 2, 3, 3), variant(6, 1, 3, 3), variant(5, 2, 5, 2))
}

// nearBoard is often a race, or almost one, with few checkers.
func nearBoard(rnd *rand.Rand, v impl.Variant) impl.Board {
	if rnd.Intn(3) == 0 {
		return randomBoard(rnd, v)
	}
	b := randomRace(rnd, v)
	if rnd.Intn(2) == 0 {
		b = swapped(b)
	}
	if k := rnd.Int63n(v.Points + 1); rnd.Intn(2) == 0 && sumOf(b.Own) < v.Checkers && (k == v.Points || b.Other[v.Points-1-k] == 0) {
		b.Own[k]++
	}
	return b
}

func TestConstantsOfIntervals(t *testing.T) {
	if impl.MaxIntervalTurns != 2 {
		t.Error(impl.MaxIntervalTurns)
	}
}

func TestAllBoardsOfIntervals(t *testing.T) {
	seen := map[string]int{}
	for _, v := range intervalVariants() {
		s := solveSpreads(v)
		eachBoard(v, func(b impl.Board) { checkAllIntervals(t, s, b, seen) })
	}
	if len(seen) != 8 {
		t.Error(seen)
	}
}

// TestRandomBoardsOfIntervals has among its rolls some without a certain play for which more than one
// play is worse.
func TestRandomBoardsOfIntervals(t *testing.T) {
	rnd := rand.New(rand.NewSource(51))
	seen := map[string]int{}
	for _, v := range largeSmallVariants() {
		s := solveSpreads(v)
		for range 12 {
			checkAllIntervals(t, s, nearBoard(rnd, v), seen)
		}
	}
	if len(seen) != 8 {
		t.Error(seen)
	}
}

// twoEach returns a board of the variant 6/2/2/2 with two checkers or fewer of both players on the
// points or bars given.
func twoEach(own, other []int64) impl.Board {
	b := impl.Board{Own: make([]int64, 7), Other: make([]int64, 7)}
	for _, i := range own {
		b.Own[i]++
	}
	for _, i := range other {
		b.Other[i]++
	}
	return b
}

// TestExamplesOfWinIntervals has intervals that are found with a pencil. In the third race the other
// player wins with the next roll, but after most rolls the board is not solved until then.
func TestExamplesOfWinIntervals(t *testing.T) {
	v := variant(6, 2, 2, 2)
	zero, one, open := exact(0, 0), exact(1, 0), impl.Interval{High: exact(1, 0)}
	for _, c := range []struct {
		b    impl.Board
		want [3]impl.Interval
	}{
		{twoEach(list(1, 2), list(1, 1)), [3]impl.Interval{open, {Low: exact(10, 2), High: exact(10, 2)}, {Low: exact(10, 2), High: exact(10, 2)}}},
		{twoEach(list(3), list(0)), [3]impl.Interval{open, {Low: exact(2, 1), High: exact(2, 1)}, {Low: exact(2, 1), High: exact(2, 1)}}},
		{twoEach(list(3, 4), list(0, 0)), [3]impl.Interval{open, {Low: zero, High: exact(3, 1)}, {Low: zero, High: zero}}},
		{twoEach(list(2, 0), list(6, 6)), [3]impl.Interval{open, {Low: exact(2, 1), High: one}, {Low: exact(2, 1), High: one}}},
		{twoEach(list(1, 1), list(1, 1)), [3]impl.Interval{{Low: exact(3, 1), High: exact(3, 1)}, {Low: exact(3, 1), High: exact(3, 1)}, {Low: exact(3, 1), High: exact(3, 1)}}},
		{twoEach(nil, list(6, 6)), [3]impl.Interval{{Low: one, High: one}, {Low: one, High: one}, {Low: one, High: one}}},
		{twoEach(list(6, 6), nil), [3]impl.Interval{}},
	} {
		for turns, want := range c.want {
			got, code := impl.WinInterval(v, c.b, int64(turns))
			if got != want || code != impl.ErrNone {
				t.Errorf("%v for %d turns: %v, code %d, not %v", c.b, turns, got, code, want)
			}
		}
	}
}

// TestExamplesOfChoices has rolls of which one play is certain, or none, and rolls with plays that are
// worse, or just not.
func TestExamplesOfChoices(t *testing.T) {
	v := variant(6, 2, 2, 2)
	s := solveSpreads(v)
	r := roll(2, 1)
	zero, half, one := exact(0, 0), exact(2, 1), exact(1, 0)
	all := impl.Interval{High: one}
	for _, c := range []struct {
		b       impl.Board
		turns   int64
		want    []impl.Interval
		certain int64
		code    int64
		worse   []int64
	}{
		{twoEach(list(0, 1), list(1, 1)), 0, []impl.Interval{{Low: one, High: one}, {Low: half, High: half}}, 0, impl.ErrNone, list(1)},
		{twoEach(list(0, 1), list(0, 0)), 2, []impl.Interval{{Low: one, High: one}, {Low: zero, High: zero}}, 0, impl.ErrNone, list(1)},
		{twoEach(list(0, 1), list(2, 3)), 0, []impl.Interval{{Low: one, High: one}, all}, 0, impl.ErrNone, nil},
		{twoEach(list(0, 1), list(2, 3)), 1, []impl.Interval{{Low: one, High: one}, {Low: exact(1, 1), High: exact(3, 1)}}, 0, impl.ErrNone, list(1)},
		{twoEach(list(1, 1), list(1, 1)), 0, []impl.Interval{{Low: half, High: half}}, 0, impl.ErrNone, nil},
		{twoEach(list(1), list(6, 6)), 0, []impl.Interval{{Low: one, High: one}}, 0, impl.ErrNone, nil},
		{twoEach(nil, list(0, 3)), 1, []impl.Interval{{Low: one, High: one}}, 0, impl.ErrNone, nil},
		{twoEach(list(0, 3), nil), 0, []impl.Interval{{}}, 0, impl.ErrNone, nil},
		{twoEach(list(0, 3), list(0, 3)), 2, []impl.Interval{{Low: exact(3, 1), High: exact(3, 1)}, {Low: exact(3, 1), High: exact(3, 1)}, {Low: one, High: one}}, 2, impl.ErrNone, list(0, 1)},
		{twoEach(list(1, 4), list(0, 3)), 2, []impl.Interval{{Low: half, High: one}, {Low: exact(2, 2), High: exact(14, 2)}, {Low: exact(6, 2), High: exact(6, 2)}}, 0, impl.ErrNotFound, list(2)},
		{twoEach(list(2, 5), list(2, 5)), 0, []impl.Interval{all, all, all, all}, 0, impl.ErrNotFound, nil},
	} {
		checkAllIntervals(t, s, c.b, map[string]int{})
		list, code := impl.PlayIntervals(v, c.b, r, c.turns)
		if !slices.Equal(list, c.want) || code != impl.ErrNone {
			t.Errorf("%v for %d turns: %v, code %d, not %v", c.b, c.turns, list, code, c.want)
		}
		if at, code := impl.CertainPlay(v, c.b, r, c.turns); at != c.certain || code != c.code {
			t.Errorf("%v for %d turns: the certain play is %d, code %d, not %d, code %d", c.b, c.turns, at, code, c.certain, c.code)
		}
		if worse, code := impl.WorsePlays(v, c.b, r, c.turns); !slices.Equal(worse, c.worse) || code != impl.ErrNone {
			t.Errorf("%v for %d turns: worse plays %v, code %d, not %v", c.b, c.turns, worse, code, c.worse)
		}
	}
}

// A valuation has approximate win chances of all boards of a variant, and the numbers of the boards
// after the plays of each roll, seen by the other player.
type valuation struct {
	boards  []impl.Board
	numbers map[string]int
	weights []float64
	ends    [][][]int
	values  []float64
}

func valuationOf(v impl.Variant) *valuation {
	x := &valuation{numbers: map[string]int{}}
	eachBoard(v, func(b impl.Board) {
		x.numbers[bitsText(b)] = len(x.boards)
		x.boards = append(x.boards, b)
	})
	for _, r := range rollsByRule(v) {
		x.weights = append(x.weights, float64(impl.RollWeight(v, r))/float64(v.Sides*v.Sides))
	}
	for _, b := range x.boards {
		var ends [][]int
		for _, r := range rollsByRule(v) {
			var numbers []int
			for _, p := range playsOf(v, b, r) {
				numbers = append(numbers, x.numbers[bitsText(swapped(p.Board))])
			}
			ends = append(ends, numbers)
		}
		x.ends = append(x.ends, ends)
	}
	x.approach()
	return x
}

func (x *valuation) valueOf(b impl.Board) float64 { return x.values[x.numbers[bitsText(b)]] }

// approach begins with even chances and goes on until the win chances hardly change. Nothing is known
// of bear-offs.
func (x *valuation) approach() {
	x.values = slices.Repeat([]float64{0.5}, len(x.boards))
	for change := 1.0; change > 1e-13; {
		change = 0
		next := make([]float64, len(x.boards))
		for i := range x.boards {
			next[i] = x.meanAt(i)
			change = max(change, math.Abs(next[i]-x.values[i]))
		}
		x.values = next
	}
}

func (x *valuation) meanAt(i int) float64 {
	switch b := x.boards[i]; {
	case sumOf(b.Own) == 0:
		return 1
	case sumOf(b.Other) == 0:
		return 0
	}
	mean := 0.0
	for k, ends := range x.ends[i] {
		greatest := 0.0
		for _, end := range ends {
			greatest = max(greatest, 1-x.values[end])
		}
		mean += x.weights[k] * greatest
	}
	return mean
}

// nearly is far more than the error of a valuation.
const nearly = 1e-9

func floatOf(v impl.Variant, x impl.Exact) float64 {
	f, _ := ratioOf(v.Sides, x).Float64()
	return f
}

func checkContains(t *testing.T, v impl.Variant, what string, x impl.Interval, value float64) {
	t.Helper()
	if floatOf(v, x.Low) > value+nearly || floatOf(v, x.High) < value-nearly {
		t.Errorf("%v: %s: %v does not contain the win chance %g", v, what, x, value)
	}
}

// checkNarrower checks that an interval lies in 0..1, or in the one before it.
func checkNarrower(t *testing.T, v impl.Variant, what string, before, x impl.Interval) {
	t.Helper()
	low, high := ratioOf(v.Sides, x.Low), ratioOf(v.Sides, x.High)
	if low.Cmp(high) > 0 || low.Cmp(ratioOf(v.Sides, before.Low)) < 0 || high.Cmp(ratioOf(v.Sides, before.High)) > 0 {
		t.Errorf("%v: %s: %v is not contained in %v", v, what, x, before)
	}
}

// checkPlays checks the intervals of the plays of a roll by their values, and that certain plays are
// best and worse plays are not.
func (x *valuation) checkPlays(t *testing.T, v impl.Variant, b impl.Board, r impl.Roll) {
	t.Helper()
	var values []float64
	for _, p := range playsOf(v, b, r) {
		values = append(values, 1-x.valueOf(swapped(p.Board)))
	}
	before := slices.Repeat([]impl.Interval{{High: exact(1, 0)}}, len(values))
	for turns := range int64(impl.MaxIntervalTurns + 1) {
		what := fmt.Sprintf("%v with %v for %d turns", b, r, turns)
		intervals, code := impl.PlayIntervals(v, b, r, turns)
		certain, certainCode := impl.CertainPlay(v, b, r, turns)
		worse, worseCode := impl.WorsePlays(v, b, r, turns)
		if code != impl.ErrNone || worseCode != impl.ErrNone || len(intervals) != len(values) {
			t.Fatalf("%v: %s: %v, code %d, and code %d", v, what, intervals, code, worseCode)
		}
		for i, interval := range intervals {
			checkContains(t, v, what, interval, values[i])
			checkNarrower(t, v, what, before[i], interval)
		}
		best := slices.Max(values)
		if certainCode == impl.ErrNone && (values[certain] < best-nearly || slices.Contains(worse, certain)) {
			t.Errorf("%v: %s: the play %d of %v is certain, the worse plays are %v", v, what, certain, values, worse)
		}
		for _, i := range worse {
			if values[i] > best-nearly {
				t.Errorf("%v: %s: the play %d of %v is worse", v, what, i, values)
			}
		}
		before = intervals
	}
}

// TestIntervalsContainTheWinChance checks promise 15 on all boards of variants in which every game ends:
// the win chances come from the plays alone.
func TestIntervalsContainTheWinChance(t *testing.T) {
	narrow := 0
	for _, v := range []impl.Variant{
		variant(2, 1, 1, 2), variant(3, 1, 2, 2), variant(3, 2, 1, 2), variant(3, 2, 3, 3), variant(4, 1, 4, 3), variant(4, 2, 2, 2), variant(4, 2, 2, 3), variant(5, 1, 2, 3), variant(6, 1, 3, 3), variant(5, 2, 2, 2),
	} {
		x := valuationOf(v)
		for i, b := range x.boards {
			before := impl.Interval{High: exact(1, 0)}
			for turns := range int64(impl.MaxIntervalTurns + 1) {
				what := fmt.Sprintf("%v for %d turns", b, turns)
				interval, code := impl.WinInterval(v, b, turns)
				if code != impl.ErrNone {
					t.Fatalf("%v: %s: code %d", v, what, code)
				}
				checkContains(t, v, what, interval, x.values[i])
				checkNarrower(t, v, what, before, interval)
				if interval != before {
					narrow++
				}
				before = interval
			}
			if len(x.boards) < 500 {
				for _, r := range rollsByRule(v) {
					x.checkPlays(t, v, b, r)
				}
			}
		}
	}
	if narrow < 1000 {
		t.Error(narrow)
	}
}

// TestIntervalsOfRaces compares intervals with the exact win chances of races in which no roll is
// useless, also of those that are not solved.
func TestIntervalsOfRaces(t *testing.T) {
	open := 0
	for _, v := range []impl.Variant{variant(3, 3, 1, 1), variant(4, 2, 2, 2), variant(5, 2, 3, 3), variant(6, 2, 3, 2), variant(6, 3, 1, 1), variant(6, 2, 3, 3)} {
		known := map[string]*big.Rat{}
		for _, b := range racesOf(v) {
			win := wonOnBoard(v, b, known)
			for turns := range int64(impl.MaxIntervalTurns + 1) {
				x, code := impl.WinInterval(v, b, turns)
				if code != impl.ErrNone || ratioOf(v.Sides, x.Low).Cmp(win) > 0 || ratioOf(v.Sides, x.High).Cmp(win) < 0 {
					t.Errorf("%v: the interval of %v for %d turns is %v, code %d, without %v", v, b, turns, x, code, win)
				}
				if x.Low != x.High {
					open++
				}
			}
		}
	}
	if open < 1000 {
		t.Error(open)
	}
}

// TestSolvedBoardsOfPositions compares the chances of all pairs of positions with those of chapter 12.
func TestSolvedBoardsOfPositions(t *testing.T) {
	for _, v := range []impl.Variant{variant(2, 3, 1, 3), variant(4, 3, 2, 3), variant(4, 2, 3, 2), variant(6, 2, 3, 3), variant(3, 3, 3, 1), variant(5, 2, 5, 2)} {
		solved := 0
		positions := positionsOf(v)
		for _, p := range positions {
			for _, q := range positions {
				b, code := impl.RaceBoard(v, p, q)
				if code != impl.ErrNone {
					continue
				}
				solved++
				want, wantCode := impl.WinChance(v, p, q)
				got, code := impl.SolvedChance(v, b)
				checkExact(t, v, fmt.Sprint("chance of ", b), got, code, want, wantCode)
				if !impl.IsSolved(v, b) {
					t.Errorf("%v: %v is not solved", v, b)
				}
			}
		}
		if solved == 0 {
			t.Error(v)
		}
	}
}

// TestSolvedLargeBoards has boards of all variants: any that are over, and races at home if their
// positions are not too many.
func TestSolvedLargeBoards(t *testing.T) {
	seen := map[string]int{}
	try := func(v impl.Variant, b impl.Board) {
		want := solvedByRule(v, b)
		if impl.IsSolved(v, b) != want {
			t.Errorf("%v: %v is solved: %v", v, b, !want)
		}
		seen[fmt.Sprint(want, " race ", raceByRule(v, b), " table ", countByRule(v) <= impl.MaxTable)]++
	}
	eachRandomRace(52, 3000, try)
	eachRandomBoard(try)
	if len(seen) != 7 {
		t.Error(seen)
	}
}

// TestLimitsOfTables has variants with 495 positions, with 560, and with too many for numbers.
func TestLimitsOfTables(t *testing.T) {
	for _, c := range []struct {
		v      impl.Variant
		solved bool
	}{
		{variant(24, 4, 8, 6), true}, {variant(24, 8, 4, 1), true}, {variant(24, 5, 6, 6), true}, {variant(24, 3, 12, 2), true}, {variant(24, 1, 24, 6), true}, {variant(24, 2, 24, 3), true}, {variant(2, 15, 1, 6), true},
		{variant(24, 3, 13, 2), false}, {variant(24, 13, 3, 2), false}, {variant(24, 5, 7, 6), false}, {variant(24, 15, 6, 6), false}, {variant(24, 15, 12, 6), false}, {variant(24, 15, 24, 6), false}, {variant(24, 7, 24, 1), false},
	} {
		size := int(c.v.Points) + 1
		one, none := filled(size, map[int]int64{0: 1}), make([]int64, size)
		if got := impl.IsSolved(c.v, impl.Board{Own: one, Other: one}); got != c.solved {
			t.Errorf("%v: a race is solved: %v", c.v, got)
		}
		bar := filled(size, map[int]int64{size - 1: 1})
		for _, b := range []impl.Board{{Own: one, Other: none}, {Own: none, Other: one}, {Own: bar, Other: none}, {Own: none, Other: bar}} {
			if !impl.IsSolved(c.v, b) {
				t.Errorf("%v: %v is not solved", c.v, b)
			}
		}
		if b := (impl.Board{Own: bar, Other: one}); impl.IsSolved(c.v, b) || impl.IsSolved(c.v, swapped(b)) {
			t.Errorf("%v: %v is solved", c.v, b)
		}
	}
}

// TestHomeLimits has checkers on the last home points, and on the points behind these.
func TestHomeLimits(t *testing.T) {
	v := variant(6, 2, 2, 3)
	for _, c := range []struct {
		b      impl.Board
		solved bool
	}{
		{twoEach(list(1, 1), list(1, 1)), true}, {twoEach(list(0, 2), list(1, 1)), false}, {twoEach(list(1, 1), list(0, 2)), false}, {twoEach(list(2, 2), list(2, 2)), false}, {twoEach(list(4), list(0)), false},
		{twoEach(list(0), list(4)), false}, {twoEach(list(0, 5), list(1)), false}, {twoEach(list(0), list(6)), false}, {twoEach(list(6), list(0)), false}, {twoEach(list(6), nil), true}, {twoEach(nil, list(5)), true},
	} {
		checkChance(t, solveSpreads(v), c.b)
		if got := impl.IsSolved(v, c.b); got != c.solved {
			t.Errorf("%v is solved: %v", c.b, got)
		}
	}
	// With all points at home a board may still have contact.
	v.Home = 6
	for _, c := range []struct {
		b      impl.Board
		solved bool
	}{
		{twoEach(list(3), list(1)), true}, {twoEach(list(3), list(3)), false}, {twoEach(list(5), list(1)), false}, {twoEach(list(5), list(5)), false}, {twoEach(list(4), list(0)), true}, {twoEach(list(6), list(0)), false},
	} {
		checkChance(t, solveSpreads(v), c.b)
		if got := impl.IsSolved(v, c.b); got != c.solved {
			t.Errorf("%v with 6 home points is solved: %v", c.b, got)
		}
	}
}

// checkRaceBoard expects positions of v.
func checkRaceBoard(t *testing.T, v impl.Variant, p, q []int64) bool {
	t.Helper()
	want := raceBoard(v, p, q)
	over := sumOf(p) == 0 || sumOf(q) == 0
	ok := sumOf(p)+sumOf(q) > 0 && !meet(v, want.Own, want.Other) && (over || raceByRule(v, want))
	b, code := impl.RaceBoard(v, p, q)
	if ok && (code != impl.ErrNone || !sameBoard(b, want)) {
		t.Errorf("%v: %v and %v are %v, code %d", v, p, q, b, code)
	}
	if !ok && (code != impl.ErrState || !zeroBoard(b)) {
		t.Errorf("%v: %v and %v are %v, code %d, not code %d", v, p, q, b, code, impl.ErrState)
	}
	return ok
}

func TestRaceBoards(t *testing.T) {
	for _, v := range []impl.Variant{
		variant(2, 1, 1, 1), variant(2, 2, 2, 6), variant(3, 3, 2, 2), variant(3, 2, 3, 3), variant(4, 4, 2, 2), variant(4, 2, 3, 6), variant(4, 3, 4, 1), variant(5, 2, 3, 2), variant(6, 2, 4, 3), variant(5, 6, 1, 6), variant(7, 1, 7, 4), variant(24, 1, 24, 6),
	} {
		boards, others := 0, 0
		positions := orderedPositions(v.Home, v.Checkers)
		for _, p := range positions {
			for _, q := range positions {
				if checkRaceBoard(t, v, p, q) {
					boards++
				} else {
					others++
				}
			}
		}
		if boards < 3 || v.Home*2 > v.Points && others < 2 || v.Home*2 <= v.Points && others != 1 {
			t.Errorf("%v: %d boards and %d others", v, boards, others)
		}
	}
	rnd := rand.New(rand.NewSource(53))
	for _, v := range append(unnumberedVariants(), impl.FullVariant(), variant(24, 15, 12, 6), variant(24, 15, 13, 1), variant(24, 3, 20, 2), variant(23, 2, 23, 5)) {
		for range 200 {
			checkRaceBoard(t, v, randomPosition(rnd, v), randomPosition(rnd, v))
		}
		checkRaceBoard(t, v, make([]int64, v.Home), make([]int64, v.Home))
	}
}

// TestNearestRaceBoards has positions whose last checkers have just passed each other, meet, or have
// not passed each other.
func TestNearestRaceBoards(t *testing.T) {
	v := variant(9, 3, 7, 4)
	for i := range 7 {
		for k := range 7 {
			p, q := filled(7, map[int]int64{i: 1}), filled(7, map[int]int64{k: 2})
			b, code := impl.RaceBoard(v, p, q)
			switch {
			case i+k < 8 && (code != impl.ErrNone || b.Own[i] != 1 || b.Other[k] != 2 || len(b.Own) != 10 || len(b.Other) != 10):
				t.Errorf("%d and %d: %v, code %d", i, k, b, code)
			case i+k >= 8 && (code != impl.ErrState || !zeroBoard(b)):
				t.Errorf("%d and %d: %v, code %d", i, k, b, code)
			}
		}
	}
}

func refuseRacePositions(t *testing.T, v impl.Variant, p, q []int64, want int64) {
	t.Helper()
	if b, code := impl.RaceBoard(v, p, q); !zeroBoard(b) || code != want {
		t.Errorf("%v: %v and %v are %v, code %d, not %d", v, p, q, b, code, want)
	}
}

func TestNoRacePositions(t *testing.T) {
	for _, v := range []impl.Variant{variant(2, 1, 1, 1), variant(2, 1, 2, 1), variant(4, 2, 2, 2), variant(5, 3, 5, 3), impl.FullVariant(), variant(24, 15, 24, 6)} {
		none, last := make([]int64, v.Home), filled(int(v.Home), map[int]int64{int(v.Home) - 1: v.Checkers})
		for _, p := range noPositions(v) {
			for _, q := range [][]int64{none, last, p, nil} {
				refuseRacePositions(t, v, p, q, impl.ErrRange)
				refuseRacePositions(t, v, q, p, impl.ErrRange)
			}
		}
	}
	for _, v := range invalidVariants() {
		for _, p := range [][]int64{nil, {1}, {0, 0}, {1, 0}, {0, 0, 0, 0, 0, 1}, {-1}} {
			for _, q := range [][]int64{nil, {1}, {0, 0}, {0, 0, 0, 0, 0, 1}, {16}} {
				refuseRacePositions(t, v, p, q, impl.ErrInvalid)
			}
		}
	}
}

// refuseRollOfIntervals checks what the functions with a roll return if one of their arguments is not accepted.
func refuseRollOfIntervals(t *testing.T, v impl.Variant, b impl.Board, r impl.Roll, turns, want int64) {
	t.Helper()
	what := fmt.Sprintf("%v: %v with %v for %d turns", v, b, r, turns)
	if list, code := impl.PlayIntervals(v, b, r, turns); len(list) != 0 || code != want {
		t.Errorf("%s: intervals %v, code %d, not %d", what, list, code, want)
	}
	if at, code := impl.CertainPlay(v, b, r, turns); at != 0 || code != want {
		t.Errorf("%s: certain play %d, code %d, not %d", what, at, code, want)
	}
	if list, code := impl.WorsePlays(v, b, r, turns); len(list) != 0 || code != want {
		t.Errorf("%s: worse plays %v, code %d, not %d", what, list, code, want)
	}
}

// refuseIntervals checks what all functions with turns return for them and a roll of v.
func refuseIntervals(t *testing.T, v impl.Variant, b impl.Board, turns, want int64) {
	t.Helper()
	what := fmt.Sprintf("%v: %v for %d turns", v, b, turns)
	if x, code := impl.WinInterval(v, b, turns); x != (impl.Interval{}) || code != want {
		t.Errorf("%s: interval %v, code %d, not %d", what, x, code, want)
	}
	x, code := impl.IntervalWidth(v, b, turns)
	checkExact(t, v, fmt.Sprint("width of ", b, " for ", turns), x, code, impl.Exact{}, want)
	refuseRollOfIntervals(t, v, b, roll(1, 1), turns, want)
}

// refuseInvalid has a board that is not valid, which comes before all other errors.
func refuseInvalid(t *testing.T, v impl.Variant, b impl.Board) {
	t.Helper()
	for _, turns := range list(0, 2, 3, -1, math.MinInt64) {
		refuseIntervals(t, v, b, turns, impl.ErrInvalid)
		for _, r := range []impl.Roll{{}, roll(7, 1), roll(1, 2)} {
			refuseRollOfIntervals(t, v, b, r, turns, impl.ErrInvalid)
		}
	}
	x, code := impl.SolvedChance(v, b)
	checkExact(t, v, fmt.Sprint("chance of ", b), x, code, impl.Exact{}, impl.ErrInvalid)
	if impl.IsSolved(v, b) {
		t.Errorf("%v: %v is solved", v, b)
	}
}

func TestIntervalsOfInvalidBoards(t *testing.T) {
	for _, b := range invalidBoards() {
		refuseInvalid(t, impl.FullVariant(), b)
	}
	v := variant(4, 2, 2, 2)
	for _, b := range []impl.Board{
		{}, {Own: make([]int64, 5), Other: make([]int64, 5)}, {Own: list(1, 0, 0, 0), Other: list(1, 0, 0, 0, 0)}, {Own: list(1, 0, 0, 0, 0), Other: list(1, 0, 0, 0)}, {Own: list(1, 0, 0, 0, 0, 0), Other: list(1, 0, 0, 0, 0, 0)},
		{Own: list(3, 0, 0, 0, 0), Other: list(1, 0, 0, 0, 0)}, {Own: list(1, 0, 0, 0, 0), Other: list(2, 1, 0, 0, 0)}, {Own: list(-1, 0, 0, 0, 0), Other: list(1, 0, 0, 0, 0)}, {Own: list(1, 0, 0, 0, 0), Other: list(0, 0, 0, 1, 0)},
		{Own: list(math.MaxInt64, math.MaxInt64, 2, 0, 0), Other: list(1, 0, 0, 0, 0)}, {Own: list(0, 0, 0, 0, 0)}, {Other: list(1, 0, 0, 0, 0)},
	} {
		refuseInvalid(t, v, b)
	}
}

func TestIntervalsOfNoVariants(t *testing.T) {
	for _, v := range append(invalidVariants(), variant(4, 2, 5, 2), variant(4, 0, 2, 2), variant(4, 2, 2, 0), variant(1, 2, 1, 2)) {
		refuseInvalid(t, v, impl.Board{})
		for _, size := range []int{1, 2, 3, 5, 25, 26} {
			one := filled(size, map[int]int64{0: 1})
			for _, b := range []impl.Board{{Own: one, Other: one}, {Own: one, Other: make([]int64, size)}} {
				refuseInvalid(t, v, b)
			}
		}
	}
}

// boardsForErrors are a solved race, one that is not solved, boards with contact, and boards that are
// over, of any variant with 3 points or more.
func boardsForErrors(v impl.Variant) []impl.Board {
	size := int(v.Points) + 1
	one, next, bar, none := filled(size, map[int]int64{0: 1}), filled(size, map[int]int64{size - 3: 1}), filled(size, map[int]int64{size - 1: 1}), make([]int64, size)
	return []impl.Board{{Own: one, Other: one}, {Own: next, Other: one}, {Own: one, Other: bar}, {Own: bar, Other: bar}, {Own: one, Other: none}, {Own: none, Other: bar}}
}

// TestNoTurnsOfIntervals has numbers of turns that are refused before large variants are.
func TestNoTurnsOfIntervals(t *testing.T) {
	for _, v := range []impl.Variant{variant(3, 1, 1, 1), variant(6, 3, 2, 3), variant(7, 3, 2, 3), variant(6, 4, 2, 3), variant(6, 3, 2, 4), impl.FullVariant()} {
		for _, b := range boardsForErrors(v) {
			for _, turns := range append(strangeNumbers(), 3, 4) {
				refuseIntervals(t, v, b, turns, impl.ErrRange)
			}
		}
	}
}

// TestNoRollsOfIntervals has rolls that are refused before large variants are.
func TestNoRollsOfIntervals(t *testing.T) {
	for _, v := range []impl.Variant{variant(3, 1, 1, 1), variant(6, 3, 2, 3), variant(4, 2, 2, 2), variant(7, 3, 2, 3), variant(6, 3, 2, 4), impl.FullVariant()} {
		for _, b := range boardsForErrors(v) {
			for _, r := range strangeRolls(v.Sides) {
				for _, turns := range list(0, 2, 3, -1) {
					refuseRollOfIntervals(t, v, b, r, turns, impl.ErrRange)
				}
			}
		}
	}
}

// TestLargeVariantsOfIntervals has variants that are just not small, and shows that the variants beside
// them are accepted.
func TestLargeVariantsOfIntervals(t *testing.T) {
	for _, v := range []impl.Variant{
		variant(7, 3, 2, 3), variant(7, 1, 1, 1), variant(6, 4, 2, 3), variant(3, 4, 1, 1), variant(6, 3, 2, 4), variant(3, 1, 1, 4), variant(24, 1, 1, 1), variant(3, 15, 1, 1), variant(3, 1, 1, 6), impl.FullVariant(),
	} {
		for _, b := range boardsForErrors(v) {
			for turns := range int64(3) {
				refuseIntervals(t, v, b, turns, impl.ErrLimit)
			}
			x, code := impl.SolvedChance(v, b)
			checkExact(t, v, fmt.Sprint("chance of ", b), x, code, impl.Exact{}, impl.ErrLimit)
		}
	}
	for _, v := range []impl.Variant{variant(6, 3, 2, 3), variant(6, 1, 1, 1), variant(3, 3, 1, 1), variant(3, 1, 1, 3), variant(6, 3, 6, 3)} {
		s := solveSpreads(v)
		for _, b := range boardsForErrors(v) {
			checkAllIntervals(t, s, b, map[string]int{})
		}
	}
}

// TestIntervalsKeepBoards gives boards in memories that are larger, and the same list as both sides.
func TestIntervalsKeepBoards(t *testing.T) {
	v := variant(4, 2, 2, 2)
	s := solveSpreads(v)
	eachBoard(v, func(given impl.Board) {
		memory := slices.Concat(given.Own, list(77, 88), given.Other, list(99, 66))
		before := slices.Clone(memory)
		b := impl.Board{Own: memory[:5], Other: memory[7:12]}
		for range 2 { // nothing is kept from the first time
			checkChance(t, s, b)
			checkInterval(t, s, b, 1)
			checkPlayIntervals(t, s, b, roll(2, 1), 1, map[string]int{})
		}
		if !slices.Equal(memory, before) {
			t.Fatal(memory, before)
		}
	})
	same := list(1, 1, 0, 0, 0, 55)[:5]
	b := impl.Board{Own: same, Other: same}
	checkAllIntervals(t, s, b, map[string]int{})
	p := same[:2]
	race, code := impl.RaceBoard(v, p, p)
	if code != impl.ErrNone || !sameBoard(race, b) || !slices.Equal(same[:6], list(1, 1, 0, 0, 0, 55)) {
		t.Error(race, code, same[:6])
	}
}

// TestResultsOfIntervalsAreNew changes every result, and then looks at the ones after it.
func TestResultsOfIntervalsAreNew(t *testing.T) {
	v := variant(6, 2, 2, 2)
	s := solveSpreads(v)
	b := twoEach(list(0, 3), list(0, 3))
	p := list(1, 1)
	for range 3 {
		race, _ := impl.RaceBoard(v, p, p)
		if !sameBoard(race, raceBoard(v, list(1, 1), list(1, 1))) {
			t.Fatal(race, p)
		}
		spoil(race)
		if !slices.Equal(p, list(1, 1)) {
			t.Fatal(p)
		}
		checkPlayIntervals(t, s, b, roll(2, 1), 2, map[string]int{})
		intervals, _ := impl.PlayIntervals(v, b, roll(2, 1), 2)
		for i := range intervals[:cap(intervals)] {
			intervals[:cap(intervals)][i] = impl.Interval{Low: exact(-9, 9)}
		}
		worse, _ := impl.WorsePlays(v, b, roll(2, 1), 2)
		overwrite(worse)
	}
	race, _ := impl.RaceBoard(v, p, p)
	spoil(impl.Board{Own: race.Own})
	if !slices.Equal(race.Other, list(1, 1, 0, 0, 0, 0, 0)) {
		t.Error(race)
	}
}

// TestIntervalsAtTheSameTime calls the functions for several variants at once.
func TestIntervalsAtTheSameTime(t *testing.T) {
	var all sync.WaitGroup
	for i := range 8 {
		all.Go(func() {
			v := intervalVariants()[[]int{1, 7, 10, 4}[i%4]]
			s := &spreadSolution{v: v, races: &raceSolution{solution: solve(v), wins: map[[2]int]*big.Rat{}}, ends: map[string][]impl.Board{}, known: map[string]spread{}}
			eachBoard(v, func(b impl.Board) { checkAllIntervals(t, s, b, map[string]int{}) })
		})
	}
	all.Wait()
}
