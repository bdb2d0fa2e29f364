package tests

import (
	"fmt"
	"math/big"
	"math/rand"
	"slices"
	"sync"
	"testing"

	"loop.example/g00885/impl"
)

// wholeRaces are variants of which all pairs of positions and all rolls are checked.
func wholeRaces() []impl.Variant {
	return []impl.Variant{
		variant(2, 1, 1, 1), variant(2, 15, 1, 2), variant(2, 8, 1, 6), variant(3, 1, 3, 1), variant(2, 2, 2, 2), variant(6, 3, 2, 3), variant(6, 3, 3, 2),
		variant(4, 3, 3, 3), variant(5, 2, 4, 4), variant(6, 4, 3, 1), variant(6, 1, 6, 6), variant(24, 1, 16, 6),
	}
}

// sampledRaces are variants with more pairs of positions, of which some are checked.
func sampledRaces() []impl.Variant {
	return []impl.Variant{
		variant(24, 2, 6, 6), variant(6, 3, 6, 3), variant(24, 5, 3, 3), variant(24, 15, 2, 2), variant(24, 6, 3, 5), variant(24, 2, 13, 2), variant(24, 4, 4, 6), variant(6, 5, 4, 1), variant(5, 4, 5, 4),
	}
}

// limitRaces are variants in which some pairs need win chances without a valid Exact.
func limitRaces() []impl.Variant {
	return []impl.Variant{
		variant(24, 1, 16, 6), variant(24, 1, 24, 6), variant(24, 1, 24, 5), variant(24, 2, 8, 6), variant(24, 2, 13, 3), variant(24, 2, 13, 4), variant(24, 13, 2, 5),
	}
}

// A raceSolution has win chances as ratios by the numbers of both positions. A ratio is nil if a win
// chance that it needs has no valid Exact.
type raceSolution struct {
	*solution
	wins map[[2]int]*big.Rat
}

func solveRaces(v impl.Variant) *raceSolution {
	return &raceSolution{solution: solve(v), wins: map[[2]int]*big.Rat{}}
}

// win follows the definition, and keeps the ratio for the next time.
func (s *raceSolution) win(own, other int) *big.Rat {
	pair := [2]int{own, other}
	win, found := s.wins[pair]
	if !found {
		win = s.winByRule(own, other)
		s.wins[pair] = win
	}
	return win
}

func (s *raceSolution) winByRule(own, other int) *big.Rat {
	switch {
	case own == 0:
		return ratio(1, 1)
	case other == 0:
		return ratio(0, 1)
	}
	mean := new(big.Rat)
	for i := range s.rolls {
		_, greatest := s.best(own, other, i)
		if greatest == nil {
			return nil
		}
		mean.Add(mean, new(big.Rat).Mul(s.weight(i), greatest))
	}
	if !s.valid(mean) {
		return nil
	}
	return mean
}

func (s *raceSolution) after(result, other int) *big.Rat {
	win := s.win(other, result)
	if win == nil {
		return nil
	}
	return new(big.Rat).Sub(ratio(1, 1), win)
}

// best returns the best race result of the roll i, and the win chance after it.
func (s *raceSolution) best(own, other, i int) (int, *big.Rat) {
	best, greatest := -1, ratio(-1, 1)
	for _, result := range s.list[own].resultsOfRolls[i] {
		after := s.after(result, other)
		if after == nil {
			return 0, nil
		}
		if after.Cmp(greatest) > 0 {
			best, greatest = result, after
		}
	}
	return best, greatest
}

// exactOf returns the Exact of a ratio, or nothing and ErrLimit if there is none.
func (s *raceSolution) exactOf(x *big.Rat) (impl.Exact, int64) {
	return s.wanted(x, x != nil)
}

// exactsOf returns nothing and ErrLimit if one of the ratios is missing.
func (s *raceSolution) exactsOf(ratios []*big.Rat) ([]impl.Exact, int64) {
	var list []impl.Exact
	for _, x := range ratios {
		number, code := s.exactOf(x)
		if code != impl.ErrNone {
			return nil, code
		}
		list = append(list, number)
	}
	return list, impl.ErrNone
}

func difference(x, y *big.Rat) *big.Rat {
	if x == nil || y == nil {
		return nil
	}
	return new(big.Rat).Sub(x, y)
}

func checkWins(t *testing.T, s *raceSolution, own, other int) {
	t.Helper()
	p, q := s.list[own].p, s.list[other].p
	want, wantCode := s.exactOf(s.win(own, other))
	got, code := impl.WinChance(s.v, p, q)
	checkExact(t, s.v, fmt.Sprint("win chance of ", p, " against ", q), got, code, want, wantCode)
	want, wantCode = s.exactOf(s.after(own, other))
	got, code = impl.SecondChance(s.v, p, q)
	checkExact(t, s.v, fmt.Sprint("second chance of ", p, " against ", q), got, code, want, wantCode)
}

func checkNumbersOfList(t *testing.T, v impl.Variant, what string, got []impl.Exact, code int64, want []impl.Exact, wantCode int64) {
	t.Helper()
	if code != wantCode || !slices.Equal(got, want) {
		t.Errorf("%v: %s are %v, code %d, not %v, code %d", v, what, got, code, want, wantCode)
	}
}

// checkRollChances expects that both positions have checkers, as the other checks of rolls do.
func checkRollChances(t *testing.T, s *raceSolution, own, other int) {
	t.Helper()
	var chances []*big.Rat
	for i := range s.rolls {
		_, x := s.best(own, other, i)
		chances = append(chances, x)
	}
	want, wantCode := s.exactsOf(chances)
	got, code := impl.RollChances(s.v, s.list[own].p, s.list[other].p)
	checkNumbersOfList(t, s.v, fmt.Sprint("chances of the rolls of ", s.list[own].p, " against ", s.list[other].p), got, code, want, wantCode)
}

// checkRaceTurn has the roll i.
func checkRaceTurn(t *testing.T, s *raceSolution, own, other, i int) {
	t.Helper()
	p, q, r := s.list[own].p, s.list[other].p, s.rolls[i]
	what := fmt.Sprint(p, " against ", q, " with ", r)
	best, greatest := s.best(own, other, i)
	var bestPosition []int64
	if greatest != nil {
		bestPosition = s.list[best].p
	}
	_, wantCode := s.exactOf(greatest)
	if got, code := impl.BestRaceResult(s.v, p, q, r); code != wantCode || !slices.Equal(got, bestPosition) {
		t.Errorf("%v: best race result of %s is %v, code %d, not %v, code %d", s.v, what, got, code, bestPosition, wantCode)
	}
	want, wantCode := s.exactOf(difference(greatest, s.win(own, other)))
	got, code := impl.RaceLuck(s.v, p, q, r)
	checkExact(t, s.v, "luck of "+what, got, code, want, wantCode)
	var chances []*big.Rat
	for _, result := range s.list[own].resultsOfRolls[i] {
		chances = append(chances, s.after(result, other))
		want, wantCode = s.exactOf(difference(greatest, s.after(result, other)))
		got, code = impl.RaceLoss(s.v, p, q, r, s.list[result].p)
		checkExact(t, s.v, fmt.Sprint("loss of ", s.list[result].p, " for ", what), got, code, want, wantCode)
	}
	list, wantCode := s.exactsOf(chances)
	gotList, code := impl.ResultChances(s.v, p, q, r)
	checkNumbersOfList(t, s.v, "chances of the results of "+what, gotList, code, list, wantCode)
}

// checkNoResult has positions that are not results of the roll i.
func checkNoResult(t *testing.T, s *raceSolution, own, other, i, number int) {
	t.Helper()
	if slices.Contains(s.list[own].resultsOfRolls[i], number) {
		return
	}
	got, code := impl.RaceLoss(s.v, s.list[own].p, s.list[other].p, s.rolls[i], s.list[number].p)
	what := fmt.Sprint("loss of ", s.list[number].p, " for ", s.list[own].p, " against ", s.list[other].p, " with ", s.rolls[i])
	checkExact(t, s.v, what, got, code, impl.Exact{}, impl.ErrNotFound)
}

// TestTwoSidedTables has all pairs, rolls and results of variants.
func TestTwoSidedTables(t *testing.T) {
	for _, v := range wholeRaces() {
		s := solveRaces(v)
		for own := range s.list {
			for other := range s.list {
				if own == 0 && other == 0 {
					continue
				}
				checkWins(t, s, own, other)
				if own == 0 || other == 0 {
					continue
				}
				checkRollChances(t, s, own, other)
				for i := range s.rolls {
					checkRaceTurn(t, s, own, other, i)
				}
			}
		}
	}
}

func TestSampledRaces(t *testing.T) {
	rnd := rand.New(rand.NewSource(21))
	for _, v := range sampledRaces() {
		s := solveRaces(v)
		last := len(s.list) - 1
		pairs := [][2]int{{last, last}, {1, last}, {last, 1}, {last - 1, last}, {last, last - 1}}
		for range 40 {
			pairs = append(pairs, [2]int{1 + rnd.Intn(last), 1 + rnd.Intn(last)})
		}
		for _, pair := range pairs {
			checkWins(t, s, pair[0], pair[1])
			checkRollChances(t, s, pair[0], pair[1])
			for range 3 {
				i := rnd.Intn(len(s.rolls))
				checkRaceTurn(t, s, pair[0], pair[1], i)
				checkNoResult(t, s, pair[0], pair[1], i, rnd.Intn(last+1))
			}
		}
		checkWins(t, s, 0, last)
		checkWins(t, s, last, 0)
	}
}

// TestResultsOfOtherRolls gives RaceLoss all positions, for some pairs and all rolls.
func TestResultsOfOtherRolls(t *testing.T) {
	rnd := rand.New(rand.NewSource(22))
	for _, v := range []impl.Variant{variant(2, 1, 1, 1), variant(2, 2, 2, 2), variant(4, 3, 3, 3), variant(6, 4, 3, 1), variant(24, 2, 6, 6), variant(24, 1, 24, 6)} {
		s := solveRaces(v)
		last := len(s.list) - 1
		pairs := [][2]int{{1, 1}, {last, last}, {1 + rnd.Intn(last), 1 + rnd.Intn(last)}}
		for _, pair := range pairs {
			for i := range s.rolls {
				for number := range s.list {
					checkNoResult(t, s, pair[0], pair[1], i, number)
				}
			}
		}
	}
}

// unknownPairs returns the pairs that need a win chance without a valid Exact, and those that lead to
// such a pair or are next to one.
func unknownPairs(s *raceSolution) ([][2]int, [][2]int) {
	var unknown, near [][2]int
	for own := 1; own < len(s.list); own++ {
		for other := 1; other < len(s.list); other++ {
			switch {
			case s.win(own, other) == nil:
				unknown = append(unknown, [2]int{own, other})
			case s.win(other, own) == nil || s.win(own, other-1) == nil || s.win(own-1, other) == nil || own+1 < len(s.list) && s.win(own+1, other) == nil:
				near = append(near, [2]int{own, other})
			}
		}
	}
	return unknown, near
}

func TestRacesWithoutValidExact(t *testing.T) {
	rnd := rand.New(rand.NewSource(23))
	for _, v := range limitRaces() {
		s := solveRaces(v)
		unknown, near := unknownPairs(s)
		if len(unknown) == 0 {
			t.Fatal(v, "has no limit")
		}
		for _, pairs := range [][][2]int{unknown, near} {
			rnd.Shuffle(len(pairs), func(i, k int) { pairs[i], pairs[k] = pairs[k], pairs[i] })
			for _, pair := range pairs[:min(len(pairs), 30)] {
				own, other := pair[0], pair[1]
				checkWins(t, s, own, other)
				checkRollChances(t, s, own, other)
				for i := range s.rolls {
					if i%3 == own%3 {
						checkRaceTurn(t, s, own, other, i)
					}
				}
				checkNoResult(t, s, own, other, 0, rnd.Intn(len(s.list)))
			}
		}
	}
}

// kindOfLimit tells what is known of a pair whose own win chance is not.
func kindOfLimit(s *raceSolution, own, other int) string {
	known := 0
	for i := range s.rolls {
		if _, x := s.best(own, other, i); x != nil {
			known++
		}
	}
	switch {
	case known == len(s.rolls):
		return "the chances of all rolls are known"
	case known > 0:
		return "the chances of some rolls are known"
	default:
		return "no chance of a roll is known"
	}
}

// TestKindsOfRaceLimits checks that the variants of the test before have pairs of every kind.
func TestKindsOfRaceLimits(t *testing.T) {
	kinds := map[string]bool{}
	for _, v := range limitRaces() {
		s := solveRaces(v)
		unknown, _ := unknownPairs(s)
		for _, pair := range unknown {
			kinds[kindOfLimit(s, pair[0], pair[1])] = true
			if s.win(pair[1], pair[0]) != nil {
				kinds["the second chance is known"] = true
			}
		}
		if v == variant(24, 1, 16, 6) && len(unknown) != 1 {
			t.Error(v, unknown)
		}
	}
	if len(kinds) != 4 {
		t.Error(kinds)
	}
}

// eachRace calls f for random pairs of positions with checkers, for the tests that use the functions
// alone. Some of the variants have nearly as many positions as the limit allows.
func eachRace(seed int64, f func(v impl.Variant, p, q []int64)) {
	rnd := rand.New(rand.NewSource(seed))
	for _, c := range []struct {
		v     impl.Variant
		pairs int
	}{
		{variant(2, 2, 2, 2), 25}, {variant(6, 3, 3, 3), 30}, {variant(24, 2, 6, 6), 20}, {variant(6, 4, 3, 1), 25}, {variant(24, 11, 1, 5), 20}, {variant(24, 1, 24, 4), 20}, {variant(6, 5, 3, 2), 15},
		{variant(24, 5, 3, 3), 10}, {variant(8, 4, 8, 3), 1}, {variant(24, 12, 3, 2), 2}, {variant(24, 8, 4, 1), 2}, {variant(24, 5, 6, 6), 1},
	} {
		for range c.pairs {
			f(c.v, someCheckers(rnd, c.v), someCheckers(rnd, c.v))
		}
	}
}

func someCheckers(rnd *rand.Rand, v impl.Variant) []int64 {
	for {
		if p := randomPosition(rnd, v); sumOf(p) > 0 {
			return p
		}
	}
}

// greatestAfter returns the greatest chance of the player after the results of a roll, by the win
// chances of the opponent, and the first result with it. It checks what the other functions return
// for this roll.
func greatestAfter(t *testing.T, v impl.Variant, p, q []int64, r impl.Roll) (impl.Exact, bool) {
	t.Helper()
	results, _ := impl.BearoffResults(v, p, r)
	var first []int64
	var greatest impl.Exact
	var chances []impl.Exact
	for _, result := range results {
		x, code := impl.WinChance(v, q, result)
		if code != impl.ErrNone {
			return impl.Exact{}, false
		}
		minus, _ := impl.ScaleExact(v, x, -1)
		x, _ = impl.AddExact(v, exact(1, 0), minus)
		chances = append(chances, x)
		if order, _ := impl.CompareExact(v, x, greatest); first == nil || order > 0 {
			first, greatest = result, x
		}
	}
	what := fmt.Sprint(p, " against ", q, " with ", r)
	got, code := impl.ResultChances(v, p, q, r)
	checkNumbersOfList(t, v, "chances of the results of "+what, got, code, chances, impl.ErrNone)
	if best, code := impl.BestRaceResult(v, p, q, r); code != impl.ErrNone || !slices.Equal(best, first) {
		t.Errorf("%v: best race result of %s is %v, code %d, not %v", v, what, best, code, first)
	}
	return greatest, true
}

// TestRecursionOfWinChances checks the first part of promise 12 by the functions alone: the win
// chance is the mean of the greatest ones after the results of the rolls.
func TestRecursionOfWinChances(t *testing.T) {
	eachRace(24, func(v impl.Variant, p, q []int64) {
		var greatest []impl.Exact
		for _, r := range impl.AllRolls(v) {
			x, known := greatestAfter(t, v, p, q, r)
			if !known {
				return
			}
			greatest = append(greatest, x)
		}
		chances, code := impl.RollChances(v, p, q)
		checkNumbersOfList(t, v, fmt.Sprint("chances of the rolls of ", p, " against ", q), chances, code, greatest, impl.ErrNone)
		want, wantCode := impl.MeanExact(v, greatest)
		got, code := impl.WinChance(v, p, q)
		checkExact(t, v, fmt.Sprint("win chance of ", p, " against ", q), got, code, want, wantCode)
	})
}

// TestLuckHasTheMeanZero checks the second part of promise 12.
func TestLuckHasTheMeanZero(t *testing.T) {
	eachRace(25, func(v impl.Variant, p, q []int64) {
		win, winCode := impl.WinChance(v, p, q)
		chances, _ := impl.RollChances(v, p, q)
		var lucks []impl.Exact
		for i, r := range impl.AllRolls(v) {
			luck, code := impl.RaceLuck(v, p, q, r)
			if code != winCode {
				t.Errorf("%v: luck of %v against %v with %v has the code %d, not %d", v, p, q, r, code, winCode)
			}
			if code != impl.ErrNone {
				return
			}
			lucks = append(lucks, luck)
			sum, code := impl.AddExact(v, win, luck)
			checkExact(t, v, fmt.Sprint("chance and luck of ", p, " against ", q, " with ", r), sum, code, chances[i], impl.ErrNone)
		}
		mean, code := impl.MeanExact(v, lucks)
		checkExact(t, v, fmt.Sprint("mean luck of ", p, " against ", q), mean, code, impl.Exact{}, impl.ErrNone)
	})
}

// TestNoResultIsBetter checks the third part of promise 12: no loss is negative, the first result
// without a loss is the best one, and its chance is what the chance of every result and its loss add
// up to.
func TestNoResultIsBetter(t *testing.T) {
	eachRace(26, func(v impl.Variant, p, q []int64) {
		for _, r := range impl.AllRolls(v) {
			chances, code := impl.ResultChances(v, p, q, r)
			if code == impl.ErrNone {
				checkLosses(t, v, p, q, r, chances)
			}
		}
	})
}

func checkLosses(t *testing.T, v impl.Variant, p, q []int64, r impl.Roll, chances []impl.Exact) {
	t.Helper()
	what := fmt.Sprint(p, " against ", q, " with ", r)
	results, _ := impl.BearoffResults(v, p, r)
	var losses []impl.Exact
	for _, result := range results {
		loss, code := impl.RaceLoss(v, p, q, r, result)
		if code != impl.ErrNone || loss.Num < 0 || !impl.IsExact(v, loss) {
			t.Errorf("%v: loss of %v for %s is %v, code %d", v, result, what, loss, code)
		}
		losses = append(losses, loss)
	}
	first := slices.Index(losses, impl.Exact{})
	if first < 0 {
		t.Fatal(v, what, losses)
	}
	if best, code := impl.BestRaceResult(v, p, q, r); code != impl.ErrNone || !slices.Equal(best, results[first]) {
		t.Errorf("%v: best race result of %s is %v, code %d, not %v", v, what, best, code, results[first])
	}
	for i, loss := range losses {
		sum, code := impl.AddExact(v, loss, chances[i])
		checkExact(t, v, fmt.Sprint("loss and chance of ", results[i], " for ", what), sum, code, chances[first], impl.ErrNone)
	}
}

// TestChancesOfBothPlayers checks that a chance lies between 0 and 1, and that the one of the player
// who waits completes that of the opponent.
func TestChancesOfBothPlayers(t *testing.T) {
	eachRace(27, func(v impl.Variant, p, q []int64) {
		win, code := impl.WinChance(v, p, q)
		second, secondCode := impl.SecondChance(v, q, p)
		if code != secondCode {
			t.Errorf("%v: %v against %v has the codes %d and %d", v, p, q, code, secondCode)
		}
		if code != impl.ErrNone {
			return
		}
		sum, code := impl.AddExact(v, win, second)
		checkExact(t, v, fmt.Sprint("both chances of ", p, " against ", q), sum, code, exact(1, 0), impl.ErrNone)
		if win.Num < 0 || second.Num < 0 || !impl.IsExact(v, win) || !impl.IsExact(v, second) {
			t.Errorf("%v: chances of %v against %v are %v and %v", v, p, q, win, second)
		}
	})
}

// wonByPlaying returns the chance that the player on roll wins if both players choose best race
// results: it follows the chances of all pairs of positions from roll to roll.
func wonByPlaying(v impl.Variant, p, q []int64) *big.Rat {
	s := &solution{v: v, rolls: rollsByRule(v)}
	type race struct{ own, other string }
	positions := map[string][]int64{positionTextByRule(p): p, positionTextByRule(q): q}
	at := map[race]*big.Rat{{positionTextByRule(p), positionTextByRule(q)}: ratio(1, 1)}
	won := new(big.Rat)
	for first := true; len(at) > 0; first = !first {
		next := map[race]*big.Rat{}
		for x, chance := range at {
			for i, r := range s.rolls {
				result, _ := impl.BestRaceResult(v, positions[x.own], positions[x.other], r)
				weighted := new(big.Rat).Mul(chance, s.weight(i))
				if sumOf(result) == 0 {
					if first {
						won.Add(won, weighted)
					}
					continue
				}
				y := race{x.other, positionTextByRule(result)}
				positions[y.other] = result
				if next[y] == nil {
					next[y] = new(big.Rat)
				}
				next[y].Add(next[y], weighted)
			}
		}
		at = next
	}
	return won
}

func TestRacesPlayedOut(t *testing.T) {
	rnd := rand.New(rand.NewSource(28))
	for _, v := range []impl.Variant{variant(2, 2, 2, 2), variant(6, 3, 3, 3), variant(24, 2, 6, 5), variant(6, 4, 3, 1), variant(24, 11, 1, 5), variant(24, 1, 12, 6), variant(6, 5, 3, 2)} {
		for range 8 {
			p, q := someCheckers(rnd, v), someCheckers(rnd, v)
			want, wantCode := exactByRule(v.Sides, wonByPlaying(v, p, q))
			got, code := impl.WinChance(v, p, q)
			checkExact(t, v, fmt.Sprint("win chance of ", p, " against ", q), got, code, want, wantCode)
		}
	}
}

// raceBoard returns the board of a race in a variant whose home points are different.
func raceBoard(v impl.Variant, p, q []int64) impl.Board {
	rest := make([]int64, v.Points+1-v.Home)
	return impl.Board{Own: slices.Concat(p, rest), Other: slices.Concat(q, rest)}
}

// wonOnBoard returns the win chance of the owner of a board, by the plays of chapter 5.
func wonOnBoard(v impl.Variant, b impl.Board, known map[string]*big.Rat) *big.Rat {
	if impl.IsOver(v, b) {
		return ratio(1-min(1, sumOf(b.Own)), 1)
	}
	id := impl.BoardId(v, b)
	if known[id] == nil {
		mean := new(big.Rat)
		for _, r := range impl.AllRolls(v) {
			plays, _ := impl.AllPlays(v, b, r)
			least := ratio(1, 1)
			for _, play := range plays {
				if x := wonOnBoard(v, impl.SwapBoard(v, play.Board), known); x.Cmp(least) < 0 {
					least = x
				}
			}
			greatest := new(big.Rat).Sub(ratio(1, 1), least)
			mean.Add(mean, greatest.Mul(greatest, ratio(impl.RollWeight(v, r), impl.RollTotal(v))))
		}
		known[id] = mean
	}
	return known[id]
}

// TestRacesOnBoards compares win chances with those on boards.
func TestRacesOnBoards(t *testing.T) {
	rnd := rand.New(rand.NewSource(29))
	for _, v := range []impl.Variant{variant(4, 2, 2, 2), variant(6, 3, 3, 3), variant(6, 3, 2, 2), variant(13, 2, 6, 5), variant(10, 4, 4, 1), variant(24, 1, 12, 4)} {
		known := map[string]*big.Rat{}
		positions := positionsOf(v)
		for range 60 {
			p, q := positions[rnd.Intn(len(positions))], positions[rnd.Intn(len(positions))]
			if sumOf(p) == 0 && sumOf(q) == 0 {
				continue
			}
			b := raceBoard(v, p, q)
			if !impl.IsBoard(v, b) || impl.IsContact(v, b) {
				t.Fatal(v, b)
			}
			want, wantCode := exactByRule(v.Sides, wonOnBoard(v, b, known))
			got, code := impl.WinChance(v, p, q)
			checkExact(t, v, fmt.Sprint("win chance of ", p, " against ", q), got, code, want, wantCode)
		}
	}
}

// TestRacesWithoutChoice has variants in which every roll has one result, so that the players need as
// many rolls as if they were alone: the first one wins if it needs no more rolls than the second one.
func TestRacesWithoutChoice(t *testing.T) {
	for _, v := range []impl.Variant{variant(2, 15, 1, 1), variant(2, 15, 1, 2), variant(2, 10, 1, 6), variant(24, 1, 12, 6), variant(24, 1, 16, 3), variant(24, 1, 24, 2)} {
		var lists [][]impl.Exact
		positions := orderedPositions(v.Home, v.Checkers)
		for _, p := range positions {
			chances, _ := impl.RollsDistribution(v, p)
			lists = append(lists, chances)
		}
		for a, p := range positions {
			for b, q := range positions {
				if a+b == 0 {
					continue
				}
				won := new(big.Rat)
				for i, x := range lists[a] {
					for k, y := range lists[b] {
						if i <= k {
							won.Add(won, new(big.Rat).Mul(ratioOf(v.Sides, x), ratioOf(v.Sides, y)))
						}
					}
				}
				want, wantCode := exactByRule(v.Sides, won)
				got, code := impl.WinChance(v, p, q)
				checkExact(t, v, fmt.Sprint("win chance of ", p, " against ", q), got, code, want, wantCode)
			}
		}
	}
}

// TestRacesOfOneSide has dice whose every roll is four steps of one pip, of which none is lost.
func TestRacesOfOneSide(t *testing.T) {
	rnd := rand.New(rand.NewSource(30))
	for _, v := range []impl.Variant{variant(2, 15, 2, 1), variant(5, 4, 4, 1), variant(9, 2, 9, 1), variant(24, 1, 24, 1), variant(24, 8, 4, 1)} {
		for range 60 {
			p, q := someCheckers(rnd, v), someCheckers(rnd, v)
			want := exact(0, 0)
			if (pipsByRule(p)+3)/4 <= (pipsByRule(q)+3)/4 {
				want = exact(1, 0)
			}
			got, code := impl.WinChance(v, p, q)
			checkExact(t, v, fmt.Sprint("win chance of ", p, " against ", q), got, code, want, impl.ErrNone)
			chances, code := impl.RollChances(v, p, q)
			checkNumbersOfList(t, v, fmt.Sprint("chances of the roll of ", p, " against ", q), chances, code, exacts(want), impl.ErrNone)
			luck, code := impl.RaceLuck(v, p, q, roll(1, 1))
			checkExact(t, v, fmt.Sprint("luck of ", p, " against ", q), luck, code, impl.Exact{}, impl.ErrNone)
		}
	}
}

// TestLastRollOfTheFullHome has the well-known numbers of the rolls, of 36, with which two checkers
// are borne off at once, before an opponent who bears off the last checkers with every roll.
func TestLastRollOfTheFullHome(t *testing.T) {
	v := variant(24, 2, 6, 6)
	both := [6][6]int64{{36}, {36, 26}, {34, 25, 17}, {29, 23, 17, 11}, {23, 19, 14, 10, 6}, {15, 13, 10, 8, 6, 4}}
	for i := range 6 {
		for k := range i + 1 {
			p := make([]int64, 6)
			p[i]++
			p[k]++
			for _, q := range [][]int64{list(1, 0, 0, 0, 0, 0), list(2, 0, 0, 0, 0, 0), list(0, 1, 0, 0, 0, 0), list(0, 0, 1, 0, 0, 0), list(1, 1, 0, 0, 0, 0)} {
				want, _ := exactByRule(6, ratio(both[i][k], 36))
				got, code := impl.WinChance(v, p, q)
				checkExact(t, v, fmt.Sprint("win chance of ", p, " against ", q), got, code, want, impl.ErrNone)
				want, _ = exactByRule(6, ratio(36-both[i][k], 36))
				got, code = impl.SecondChance(v, q, p)
				checkExact(t, v, fmt.Sprint("second chance of ", q, " against ", p), got, code, want, impl.ErrNone)
			}
		}
	}
}

// TestExamplesOfRaces has win chances worked out by hand.
func TestExamplesOfRaces(t *testing.T) {
	small, two := variant(6, 2, 2, 2), variant(24, 2, 6, 6)
	for _, c := range []struct {
		v           impl.Variant
		p, q        []int64
		win, second impl.Exact
	}{
		{small, list(1, 0), list(0, 2), exact(1, 0), exact(2, 1)}, // the opponent needs a double
		{small, list(0, 2), list(1, 0), exact(2, 1), exact(0, 0)},
		{small, list(0, 2), list(0, 2), exact(3, 1), exact(1, 1)}, // no double, a double of the opponent
		{small, list(0, 0), list(0, 2), exact(1, 0), exact(1, 0)},
		{small, list(0, 2), list(0, 0), exact(0, 0), exact(0, 0)},
		{two, list(0, 0, 0, 0, 0, 1), list(1, 0, 0, 0, 0, 0), exact(27, 1), exact(0, 0)},
		{two, list(0, 0, 0, 0, 0, 1), list(0, 0, 0, 0, 0, 1), exact(36*36-9*27, 2), exact(9*27, 2)}, // 9 rolls fail, then 27 of the opponent win
		{two, list(0, 0, 0, 0, 1, 0), list(0, 0, 0, 1, 0, 0), exact(36*36-5*34, 2), exact(2*31, 2)},
		{variant(24, 5, 3, 3), list(0, 4, 1), list(3, 1, 0), exact(224, 3), exact(0, 0)},
		{variant(2, 15, 1, 2), list(5), list(4), exact(6, 2), exact(0, 0)},
	} {
		got, code := impl.WinChance(c.v, c.p, c.q)
		checkExact(t, c.v, fmt.Sprint("win chance of ", c.p, " against ", c.q), got, code, c.win, impl.ErrNone)
		got, code = impl.SecondChance(c.v, c.p, c.q)
		checkExact(t, c.v, fmt.Sprint("second chance of ", c.p, " against ", c.q), got, code, c.second, impl.ErrNone)
	}
}

// TestExamplesOfRaceTurns has rolls whose results and chances were worked out by hand.
func TestExamplesOfRaceTurns(t *testing.T) {
	small, three := variant(6, 2, 2, 2), variant(24, 5, 3, 3)
	half, quarter := exact(2, 1), exact(1, 1)
	for _, c := range []struct {
		v       impl.Variant
		p, q    []int64
		r       impl.Roll
		results [][]int64
		chances []impl.Exact
		best    int
		losses  []impl.Exact
		luck    impl.Exact
	}{
		{small, list(0, 2), list(0, 2), roll(1, 1), [][]int64{list(0, 0)}, exacts(exact(1, 0)), 0, exacts(exact(0, 0)), quarter},
		{small, list(0, 2), list(0, 2), roll(2, 1), [][]int64{list(1, 0)}, exacts(half), 0, exacts(exact(0, 0)), exact(-1, 1)},
		{small, list(1, 1), list(1, 0), roll(2, 1), [][]int64{list(0, 0), list(1, 0)}, exacts(exact(1, 0), exact(0, 0)), 0, exacts(exact(0, 0), exact(1, 0)), exact(0, 0)},
		{small, list(1, 1), list(0, 2), roll(2, 1), [][]int64{list(0, 0), list(1, 0)}, exacts(exact(1, 0), half), 0, exacts(exact(0, 0), half), exact(0, 0)},
		// If the opponent has no double, which would win (save for 1-1), all four checkers must be borne
		// off at once: 2-2 or 3-3 do this from the point 1, and only 3-3 if one is on the point 2.
		{three, list(0, 4, 1), list(3, 1, 0), roll(2, 1), [][]int64{list(2, 3, 0), list(0, 4, 0), list(1, 2, 1)}, exacts(exact(0, 0), exact(14, 2), exact(7, 2)), 1, exacts(exact(14, 2), exact(0, 0), exact(7, 2)), exact(-98, 3)},
		// Every result leaves the opponent the last roll, so that the first one is the best.
		{three, list(0, 4, 1), list(1, 1, 0), roll(2, 1), [][]int64{list(2, 3, 0), list(0, 4, 0), list(1, 2, 1)}, exacts(exact(0, 0), exact(0, 0), exact(0, 0)), 0, exacts(exact(0, 0), exact(0, 0), exact(0, 0)), exact(0, 0)},
	} {
		what := fmt.Sprint(c.p, " against ", c.q, " with ", c.r)
		chances, code := impl.ResultChances(c.v, c.p, c.q, c.r)
		checkNumbersOfList(t, c.v, "chances of the results of "+what, chances, code, c.chances, impl.ErrNone)
		if best, code := impl.BestRaceResult(c.v, c.p, c.q, c.r); code != impl.ErrNone || !slices.Equal(best, c.results[c.best]) {
			t.Errorf("%v: best race result of %s is %v, code %d, not %v", c.v, what, best, code, c.results[c.best])
		}
		for i, result := range c.results {
			loss, code := impl.RaceLoss(c.v, c.p, c.q, c.r, result)
			checkExact(t, c.v, fmt.Sprint("loss of ", result, " for ", what), loss, code, c.losses[i], impl.ErrNone)
		}
		luck, code := impl.RaceLuck(c.v, c.p, c.q, c.r)
		checkExact(t, c.v, "luck of "+what, luck, code, c.luck, impl.ErrNone)
	}
}

// refuseWins checks what the functions return that need checkers of one player only.
func refuseWins(t *testing.T, v impl.Variant, p, q []int64, want int64) {
	t.Helper()
	what := fmt.Sprint(p, " against ", q)
	x, code := impl.WinChance(v, p, q)
	checkExact(t, v, "win chance of "+what, x, code, impl.Exact{}, want)
	x, code = impl.SecondChance(v, p, q)
	checkExact(t, v, "second chance of "+what, x, code, impl.Exact{}, want)
}

func refuseRollChances(t *testing.T, v impl.Variant, p, q []int64, want int64) {
	t.Helper()
	list, code := impl.RollChances(v, p, q)
	checkNumbersOfList(t, v, fmt.Sprint("chances of the rolls of ", p, " against ", q), list, code, nil, want)
}

func refuseLoss(t *testing.T, v impl.Variant, p, q []int64, r impl.Roll, result []int64, want int64) {
	t.Helper()
	x, code := impl.RaceLoss(v, p, q, r, result)
	checkExact(t, v, fmt.Sprint("loss of ", result, " for ", p, " against ", q, " with ", r), x, code, impl.Exact{}, want)
}

// refuseTurn gives RaceLoss a position as the result.
func refuseTurn(t *testing.T, v impl.Variant, p, q []int64, r impl.Roll, result []int64, want int64) {
	t.Helper()
	what := fmt.Sprint(p, " against ", q, " with ", r)
	if best, code := impl.BestRaceResult(v, p, q, r); len(best) != 0 || code != want {
		t.Errorf("%v: best race result of %s is %v, code %d, not %d", v, what, best, code, want)
	}
	x, code := impl.RaceLuck(v, p, q, r)
	checkExact(t, v, "luck of "+what, x, code, impl.Exact{}, want)
	list, code := impl.ResultChances(v, p, q, r)
	checkNumbersOfList(t, v, "chances of the results of "+what, list, code, nil, want)
	refuseLoss(t, v, p, q, r, result, want)
}

// refuseRace checks what all functions return for a pair, with some rolls.
func refuseRace(t *testing.T, v impl.Variant, p, q, result []int64, want int64) {
	t.Helper()
	refuseWins(t, v, p, q, want)
	refuseRollChances(t, v, p, q, want)
	for _, r := range []impl.Roll{roll(1, 1), roll(2, 1), roll(1, 2), {}} {
		refuseTurn(t, v, p, q, r, result, want)
	}
}

// emptyAndOthers returns positions: without checkers, with one, with all of them on the last point.
func emptyAndOthers(v impl.Variant) [][]int64 {
	size := int(v.Home)
	return [][]int64{make([]int64, size), filled(size, map[int]int64{0: 1}), filled(size, map[int]int64{size - 1: v.Checkers})}
}

// TestRacesOfNoPositions has lists that are no positions in every place, also for variants with too
// many positions and beside positions without checkers, which are looked at later.
func TestRacesOfNoPositions(t *testing.T) {
	for _, v := range slices.Concat(wholeRaces()[:5], sampledRaces()[:3], hugeTables()[:3]) {
		for _, p := range noPositions(v) {
			for _, q := range emptyAndOthers(v) {
				refuseRace(t, v, p, q, q, impl.ErrRange)
				refuseRace(t, v, q, p, q, impl.ErrRange)
				for _, r := range []impl.Roll{roll(1, 1), roll(1, 2)} {
					refuseLoss(t, v, q, q, r, p, impl.ErrRange)
				}
			}
			refuseRace(t, v, p, p, p, impl.ErrRange)
		}
	}
}

func TestRacesOfInvalidVariants(t *testing.T) {
	for _, v := range invalidVariants() {
		for _, size := range []int{0, 1, 2, 6, 24, 25} {
			for _, p := range [][]int64{make([]int64, size), slices.Repeat(list(-1), size), slices.Repeat(list(1), size)} {
				for _, q := range [][]int64{nil, p, make([]int64, size)} {
					refuseRace(t, v, p, q, p, impl.ErrInvalid)
					refuseRace(t, v, q, p, nil, impl.ErrInvalid)
				}
			}
		}
	}
}

// TestTurnsOfNoRoll has variants with too many positions, too, and positions without checkers.
func TestTurnsOfNoRoll(t *testing.T) {
	for _, v := range slices.Concat(wholeRaces(), sampledRaces(), hugeTables(), limitRaces()) {
		for _, p := range emptyAndOthers(v) {
			for _, q := range emptyAndOthers(v) {
				for _, r := range strangeRolls(v.Sides) {
					refuseTurn(t, v, p, q, r, p, impl.ErrRange)
				}
			}
		}
	}
}

// TestTooManyPositionsForRaces has positions without checkers, too, which are looked at later.
func TestTooManyPositionsForRaces(t *testing.T) {
	rnd := rand.New(rand.NewSource(31))
	for _, v := range hugeTables() {
		for _, p := range append(emptyAndOthers(v), randomPosition(rnd, v)) {
			for _, q := range append(emptyAndOthers(v), randomPosition(rnd, v)) {
				refuseWins(t, v, p, q, impl.ErrLimit)
				refuseRollChances(t, v, p, q, impl.ErrLimit)
				for _, r := range rollsByRule(v) {
					refuseTurn(t, v, p, q, r, p, impl.ErrLimit)
				}
			}
		}
	}
}

// TestRacesThatAreOver has one or two positions without checkers. The result is looked at later, if
// it is a position.
func TestRacesThatAreOver(t *testing.T) {
	rnd := rand.New(rand.NewSource(32))
	for _, v := range slices.Concat(wholeRaces(), sampledRaces(), limitRaces(), sampledTables()) {
		none := make([]int64, v.Home)
		refuseWins(t, v, none, none, impl.ErrState)
		some := append(emptyAndOthers(v)[1:], someCheckers(rnd, v))
		for _, p := range some {
			for _, c := range []struct {
				p, q []int64
				want impl.Exact
			}{{none, p, exact(1, 0)}, {p, none, exact(0, 0)}} {
				x, code := impl.WinChance(v, c.p, c.q)
				checkExact(t, v, fmt.Sprint("win chance of ", c.p, " against ", c.q), x, code, c.want, impl.ErrNone)
				x, code = impl.SecondChance(v, c.p, c.q)
				checkExact(t, v, fmt.Sprint("second chance of ", c.p, " against ", c.q), x, code, c.want, impl.ErrNone)
			}
		}
		for _, p := range append(some, none) {
			refuseRollChances(t, v, p, none, impl.ErrState)
			refuseRollChances(t, v, none, p, impl.ErrState)
			for _, r := range rollsByRule(v) {
				for _, result := range [][]int64{none, p} {
					refuseTurn(t, v, p, none, r, result, impl.ErrState)
					refuseTurn(t, v, none, p, r, result, impl.ErrState)
				}
			}
		}
	}
}

// TestSizesOfRaces has all numbers of home points and checkers, up to the limit of positions and
// beyond.
func TestSizesOfRaces(t *testing.T) {
	for home := int64(1); home <= 24; home++ {
		for checkers := int64(1); checkers <= 15; checkers++ {
			v := variant(max(2, home), checkers, home, 1+(home+2*checkers)%6)
			one := filled(int(home), map[int]int64{0: 1})
			if countByRule(v) > 500 {
				refuseWins(t, v, one, one, impl.ErrLimit)
				refuseRollChances(t, v, one, one, impl.ErrLimit)
				refuseTurn(t, v, one, one, roll(1, 1), one, impl.ErrLimit)
				continue
			}
			checkWonAtOnce(t, v, one, filled(int(home), map[int]int64{int(home) - 1: checkers}))
		}
	}
}

// checkWonAtOnce expects that every roll bears off all checkers of p.
func checkWonAtOnce(t *testing.T, v impl.Variant, p, q []int64) {
	t.Helper()
	what := fmt.Sprint(p, " against ", q)
	x, code := impl.WinChance(v, p, q)
	checkExact(t, v, "win chance of "+what, x, code, exact(1, 0), impl.ErrNone)
	chances, code := impl.RollChances(v, p, q)
	checkNumbersOfList(t, v, "chances of the rolls of "+what, chances, code, slices.Repeat(exacts(exact(1, 0)), len(rollsByRule(v))), impl.ErrNone)
	for _, r := range rollsByRule(v) {
		best, code := impl.BestRaceResult(v, p, q, r)
		if code != impl.ErrNone || int64(len(best)) != v.Home || sumOf(best) != 0 {
			t.Errorf("%v: best race result of %s with %v is %v, code %d", v, what, r, best, code)
		}
		x, code = impl.RaceLuck(v, p, q, r)
		checkExact(t, v, fmt.Sprint("luck of ", what, " with ", r), x, code, impl.Exact{}, impl.ErrNone)
		x, code = impl.RaceLoss(v, p, q, r, best)
		checkExact(t, v, fmt.Sprint("loss of ", what, " with ", r), x, code, impl.Exact{}, impl.ErrNone)
		chances, code = impl.ResultChances(v, p, q, r)
		checkNumbersOfList(t, v, fmt.Sprint("chances of ", what, " with ", r), chances, code, exacts(exact(1, 0)), impl.ErrNone)
	}
}

// TestPointsDoNotMatterInRaces compares variants that differ in the number of points alone, or have
// more checkers than the positions.
func TestPointsDoNotMatterInRaces(t *testing.T) {
	rnd := rand.New(rand.NewSource(33))
	for _, v := range []impl.Variant{variant(3, 4, 3, 3), variant(6, 2, 6, 6), variant(4, 3, 4, 2)} {
		for range 20 {
			p, q := someCheckers(rnd, v), someCheckers(rnd, v)
			want, wantCode := impl.WinChance(v, p, q)
			chances, _ := impl.RollChances(v, p, q)
			for _, w := range []impl.Variant{variant(v.Points+1, v.Checkers, v.Home, v.Sides), variant(24, v.Checkers, v.Home, v.Sides), variant(24, v.Checkers+1, v.Home, v.Sides)} {
				got, code := impl.WinChance(w, p, q)
				checkExact(t, w, fmt.Sprint("win chance of ", p, " against ", q), got, code, want, wantCode)
				list, code := impl.RollChances(w, p, q)
				checkNumbersOfList(t, w, fmt.Sprint("chances of the rolls of ", p, " against ", q), list, code, chances, impl.ErrNone)
			}
		}
	}
}

// TestRacesKeepPositions gives positions in memories that are larger, and overwrites each result
// before it looks at the next one.
func TestRacesKeepPositions(t *testing.T) {
	s := solveRaces(variant(6, 3, 3, 3))
	given := solveRaces(s.v)
	for own := 1; own < len(s.list); own += 3 {
		for other := 1; other < len(s.list); other += 4 {
			memory := slices.Concat(s.list[own].p, list(77, 88), s.list[other].p, list(99))
			before := slices.Clone(memory)
			given.solution = &solution{v: s.v, rolls: s.rolls, list: slices.Clone(s.list)}
			given.list[other].p = memory[5:8]
			given.list[own].p = memory[:3]
			for range 2 { // nothing is kept from the first time
				checkWins(t, given, own, other)
				checkRollChances(t, given, own, other)
				overwriteExacts(impl.RollChances(s.v, given.list[own].p, given.list[other].p))
				for i, r := range s.rolls {
					checkRaceTurn(t, given, own, other, i)
					best, _ := impl.BestRaceResult(s.v, given.list[own].p, given.list[other].p, r)
					overwrite(best)
					overwriteExacts(impl.ResultChances(s.v, given.list[own].p, given.list[other].p, r))
				}
			}
			if !slices.Equal(memory, before) {
				t.Fatal(memory, before)
			}
		}
	}
}

func overwriteExacts(list []impl.Exact, _ int64) {
	for i := range list[:cap(list)] {
		list[:cap(list)][i] = exact(-9, 9)
	}
}

// TestRacesAtTheSameTime calls the functions for several variants at once, and again.
func TestRacesAtTheSameTime(t *testing.T) {
	var all sync.WaitGroup
	for i, v := range slices.Repeat(wholeRaces()[1:9], 2) {
		s := solveRaces(v)
		all.Go(func() {
			rnd := rand.New(rand.NewSource(int64(i)))
			for range 20 {
				own, other := 1+rnd.Intn(len(s.list)-1), 1+rnd.Intn(len(s.list)-1)
				checkWins(t, s, own, other)
				checkRollChances(t, s, own, other)
				checkRaceTurn(t, s, own, other, rnd.Intn(len(s.rolls)))
			}
		})
	}
	all.Wait()
}
