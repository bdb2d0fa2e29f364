package tests

import (
	"fmt"
	"math/big"
	"math/rand"
	"runtime"
	"slices"
	"sync"
	"testing"
	"time"

	"loop.example/g00885/impl"
)

// A raceReport has what all functions with a board return for a race, save for ErrNone.
type raceReport struct {
	lead         int64
	crossovers   int64
	least        int64
	mean         [2]int64
	greatest     int64
	greatestCode int64
	winner       int64
	counts       [2]int64
	advice       int64
}

// reportOf expects that all codes but that of GreatestRolls are ErrNone.
func reportOf(t *testing.T, v impl.Variant, b impl.Board) raceReport {
	t.Helper()
	var r raceReport
	var codes [7]int64
	r.lead, codes[0] = impl.PipLead(v, b)
	r.crossovers, codes[1] = impl.Crossovers(v, b)
	r.least, codes[2] = impl.LeastRolls(v, b)
	r.mean[0], r.mean[1], codes[3] = impl.MeanBound(v, b)
	r.greatest, r.greatestCode = impl.GreatestRolls(v, b)
	r.winner, codes[4] = impl.SureWinner(v, b)
	r.counts[0], r.counts[1], codes[5] = impl.AdjustedCounts(v, b)
	r.advice, codes[6] = impl.RaceAdvice(v, b)
	if codes != [7]int64{} {
		t.Errorf("%v: %v has the codes %v", v, b, codes)
	}
	return r
}

func checkReport(t *testing.T, v impl.Variant, b impl.Board, want raceReport) {
	t.Helper()
	if got := reportOf(t, v, b); got != want {
		t.Errorf("%v: %v:\n %+v, not\n %+v", v, b, got, want)
	}
}

// refuseRaceBoard checks what all functions with a board return for one that is no race.
func refuseRaceBoard(t *testing.T, v impl.Variant, b impl.Board, want int64) {
	t.Helper()
	one := map[string]func(v impl.Variant, b impl.Board) (int64, int64){
		"lead": impl.PipLead, "crossovers": impl.Crossovers, "least": impl.LeastRolls, "greatest": impl.GreatestRolls, "winner": impl.SureWinner, "advice": impl.RaceAdvice,
	}
	for name, f := range one {
		if n, code := f(v, b); n != 0 || code != want {
			t.Errorf("%v: %v: %s is %d, code %d, not %d", v, b, name, n, code, want)
		}
	}
	two := map[string]func(v impl.Variant, b impl.Board) (int64, int64, int64){"mean bound": impl.MeanBound, "adjusted counts": impl.AdjustedCounts}
	for name, f := range two {
		if x, y, code := f(v, b); x != 0 || y != 0 || code != want {
			t.Errorf("%v: %v: %s is %d and %d, code %d, not %d", v, b, name, x, y, code, want)
		}
	}
}

// raceByRule compares each checker of the owner with each one of the other player.
func raceByRule(v impl.Variant, b impl.Board) bool {
	own, other := placesOf(b.Own), placesOf(b.Other)
	for _, i := range own {
		for _, k := range other {
			if i+k >= v.Points {
				return false
			}
		}
	}
	return len(own) > 0 && len(other) > 0
}

// diceOfFaces returns the dice that a pair of faces gives to the player.
func diceOfFaces(p, q int64) []int64 {
	if p == q {
		return list(p, p, p, p)
	}
	return list(p, q)
}

// meanOfDice returns the mean of a measure of the dice over all pairs of faces.
func meanOfDice(v impl.Variant, measure func(dice []int64) int64) *big.Rat {
	sum := int64(0)
	for p := int64(1); p <= v.Sides; p++ {
		for q := int64(1); q <= v.Sides; q++ {
			sum += measure(diceOfFaces(p, q))
		}
	}
	return ratio(sum, v.Sides*v.Sides)
}

func countOf(dice []int64) int64 { return int64(len(dice)) }

// leastByRule counts rolls of the greatest double until they have pips and dice for all checkers.
func leastByRule(v impl.Variant, side []int64) int64 {
	rolls := int64(0)
	for rolls*4*v.Sides < pipsByRule(side) || rolls*4 < sumOf(side) {
		rolls++
	}
	return rolls
}

func meanBoundByRule(v impl.Variant, side []int64) *big.Rat {
	byPips := new(big.Rat).Quo(ratio(pipsByRule(side), 1), meanOfDice(v, sumOf))
	byDice := new(big.Rat).Quo(ratio(sumOf(side), 1), meanOfDice(v, countOf))
	if byPips.Cmp(byDice) > 0 {
		return byPips
	}
	return byDice
}

// greatestByRule counts rolls that take two pips each, or one that takes the last pip.
func greatestByRule(v impl.Variant, side []int64) (int64, int64) {
	if v.Sides > v.Home && slices.Max(placesOf(side)) >= v.Home {
		return 0, impl.ErrNotFound
	}
	rolls := int64(0)
	for left := pipsByRule(side); left > 0; left -= 2 {
		rolls++
	}
	return rolls, impl.ErrNone
}

func winnerByRule(v impl.Variant, b impl.Board) int64 {
	own, ownCode := greatestByRule(v, b.Own)
	other, otherCode := greatestByRule(v, b.Other)
	if ownCode == impl.ErrNone && own <= leastByRule(v, b.Other) {
		return 1
	}
	if otherCode == impl.ErrNone && other < leastByRule(v, b.Own) {
		return -1
	}
	return 0
}

// adjustedSumByRule adds up what each checker counts, with 1 less for the first one on a home point.
func adjustedSumByRule(v impl.Variant, side []int64) int64 {
	sum := int64(0)
	seen := map[int64]bool{}
	for _, i := range placesOf(side) {
		sum += i + 1 + 2
		if i == 0 {
			sum++
		}
		if i < v.Home && !seen[i] {
			sum--
		}
		seen[i] = true
	}
	return sum
}

func adjustedByRule(v impl.Variant, b impl.Board) [2]int64 {
	own, other := adjustedSumByRule(v, b.Own), adjustedSumByRule(v, b.Other)
	if own > 30 {
		return [2]int64{11 * own, 10 * other}
	}
	return [2]int64{10 * own, 10 * other}
}

func adviceByRule(counts [2]int64) int64 {
	switch difference := counts[0] - counts[1]; {
	case difference > 20:
		return impl.AdviceWait
	case difference < -20:
		return impl.AdvicePass
	default:
		return impl.AdviceTake
	}
}

func crossoversByRule(v impl.Variant, side []int64) int64 {
	sum := int64(0)
	for _, i := range placesOf(side) {
		for ; i >= v.Home; i -= v.Home {
			sum++
		}
	}
	return sum
}

func reportByRule(v impl.Variant, b impl.Board) raceReport {
	mean := meanBoundByRule(v, b.Own)
	r := raceReport{
		lead:       pipsByRule(b.Other) - pipsByRule(b.Own),
		crossovers: crossoversByRule(v, b.Own),
		least:      leastByRule(v, b.Own),
		mean:       [2]int64{mean.Num().Int64(), mean.Denom().Int64()},
		winner:     winnerByRule(v, b),
		counts:     adjustedByRule(v, b),
	}
	r.greatest, r.greatestCode = greatestByRule(v, b.Own)
	r.advice = adviceByRule(r.counts)
	return r
}

// raceVariants are small enough for all of their boards. Some have dice beyond the home points, or
// beyond all points, or nothing but home points.
func raceVariants() []impl.Variant {
	return []impl.Variant{
		variant(2, 1, 1, 1), variant(2, 3, 2, 6), variant(2, 15, 1, 3), variant(3, 3, 1, 2), variant(3, 6, 2, 1), variant(3, 3, 3, 4), variant(4, 3, 1, 6), variant(4, 4, 2, 2), variant(4, 3, 2, 3),
		variant(4, 3, 4, 5), variant(5, 2, 1, 1), variant(5, 4, 2, 3), variant(5, 3, 3, 3), variant(6, 3, 2, 6), variant(6, 2, 3, 3), variant(6, 2, 6, 6), variant(7, 3, 3, 4), variant(8, 2, 3, 4), variant(24, 1, 6, 6),
	}
}

// randomRace puts the checkers of both players where they have passed each other.
func randomRace(rnd *rand.Rand, v impl.Variant) impl.Board {
	b := impl.Board{Own: make([]int64, v.Points+1), Other: make([]int64, v.Points+1)}
	reach := 1 + rnd.Int63n(v.Points-1)
	for range 1 + rnd.Int63n(v.Checkers) {
		b.Own[rnd.Int63n(reach)]++
	}
	for range 1 + rnd.Int63n(v.Checkers) {
		b.Other[rnd.Int63n(v.Points-reach)]++
	}
	return b
}

func randomVariant(rnd *rand.Rand) impl.Variant {
	points := 2 + rnd.Int63n(23)
	return variant(points, 1+rnd.Int63n(15), 1+rnd.Int63n(points), 1+rnd.Int63n(6))
}

// eachRandomRace calls f for random races of the full game and of random variants.
func eachRandomRace(seed int64, n int, f func(v impl.Variant, b impl.Board)) {
	rnd := rand.New(rand.NewSource(seed))
	for i := range n {
		v := impl.FullVariant()
		if i%2 == 0 {
			v = randomVariant(rnd)
		}
		f(v, randomRace(rnd, v))
	}
}

func TestConstantsOfRaces(t *testing.T) {
	if advice := [3]int64{impl.AdviceWait, impl.AdviceTake, impl.AdvicePass}; advice != [3]int64{0, 1, 2} {
		t.Error(advice)
	}
}

func TestMeanPips(t *testing.T) {
	sums := list(4, 18, 48, 100, 180, 294)
	eachVariant(func(v impl.Variant) {
		sum, number := impl.MeanPips(v)
		if sum != sums[v.Sides-1] || number != v.Sides*v.Sides || ratio(sum, number).Cmp(meanOfDice(v, sumOf)) != 0 {
			t.Errorf("%v: mean pips %d and %d", v, sum, number)
		}
	})
	for _, v := range invalidVariants() {
		if sum, number := impl.MeanPips(v); sum != 0 || number != 0 {
			t.Errorf("%v: mean pips %d and %d", v, sum, number)
		}
	}
}

// TestAllBoardsOfRaces has all boards of small variants, also those that are no races.
func TestAllBoardsOfRaces(t *testing.T) {
	for _, v := range raceVariants() {
		races := 0
		eachBoard(v, func(b impl.Board) {
			if !raceByRule(v, b) {
				refuseRaceBoard(t, v, b, impl.ErrState)
				return
			}
			races++
			checkReport(t, v, b, reportByRule(v, b))
		})
		if races == 0 {
			t.Error(v, "has no races")
		}
	}
}

func TestRandomRaces(t *testing.T) {
	seen := map[string]int{}
	eachRandomRace(41, 6000, func(v impl.Variant, b impl.Board) {
		want := reportByRule(v, b)
		checkReport(t, v, b, want)
		seen[fmt.Sprint("advice ", want.advice)]++
		seen[fmt.Sprint("winner ", want.winner)]++
		seen[fmt.Sprint("code ", want.greatestCode)]++
	})
	if len(seen) != 8 {
		t.Error(seen)
	}
}

func TestRandomBoardsOfRaces(t *testing.T) {
	eachRandomBoard(func(v impl.Variant, b impl.Board) {
		if raceByRule(v, b) {
			checkReport(t, v, b, reportByRule(v, b))
		} else {
			refuseRaceBoard(t, v, b, impl.ErrState)
		}
	})
}

// fullRace returns a board of the full game.
func fullRace(own, other map[int]int64) impl.Board {
	return impl.Board{Own: filled(25, own), Other: filled(25, other)}
}

func TestExamplesOfRaceReports(t *testing.T) {
	full := impl.FullVariant()
	one := map[int]int64{0: 1}
	for _, c := range []struct {
		b    impl.Board
		want raceReport
	}{
		{fullRace(one, one), raceReport{0, 0, 1, [2]int64{3, 7}, 1, 0, 1, [2]int64{30, 30}, impl.AdviceTake}},
		{fullRace(map[int]int64{0: 2}, one), raceReport{-1, 0, 1, [2]int64{6, 7}, 1, 0, 1, [2]int64{70, 30}, impl.AdviceWait}},
		{fullRace(map[int]int64{5: 1}, one), raceReport{-5, 0, 1, [2]int64{36, 49}, 3, 0, 0, [2]int64{70, 30}, impl.AdviceWait}},
		{fullRace(map[int]int64{6: 1}, one), raceReport{-6, 1, 1, [2]int64{6, 7}, 4, 0, 0, [2]int64{90, 30}, impl.AdviceWait}},
		{fullRace(map[int]int64{7: 2, 12: 1}, map[int]int64{0: 8}), raceReport{-21, 4, 2, [2]int64{174, 49}, 15, 0, 0, [2]int64{385, 310}, impl.AdviceWait}},
		{fullRace(map[int]int64{0: 15}, map[int]int64{5: 1}), raceReport{-9, 0, 4, [2]int64{45, 7}, 8, 0, -1, [2]int64{649, 70}, impl.AdviceWait}},
		{fullRace(map[int]int64{0: 15}, map[int]int64{5: 2}), raceReport{-3, 0, 4, [2]int64{45, 7}, 8, 0, 0, [2]int64{649, 150}, impl.AdviceWait}},
		{fullRace(map[int]int64{0: 2}, map[int]int64{22: 15}), raceReport{343, 0, 1, [2]int64{6, 7}, 1, 0, 1, [2]int64{70, 3750}, impl.AdvicePass}},
		{fullRace(map[int]int64{22: 15}, map[int]int64{0: 2}), raceReport{-343, 45, 15, [2]int64{2070, 49}, 173, 0, -1, [2]int64{4125, 70}, impl.AdviceWait}},
	} {
		checkReport(t, full, c.b, c.want)
	}
}

// TestLimitsOfLeastRolls has distances and numbers of checkers next to those for one roll more.
func TestLimitsOfLeastRolls(t *testing.T) {
	full := impl.FullVariant()
	one := map[int]int64{0: 1}
	for _, c := range []struct {
		own  map[int]int64
		want int64
	}{
		{map[int]int64{0: 4}, 1}, {map[int]int64{0: 5}, 2}, {map[int]int64{0: 8}, 2}, {map[int]int64{0: 9}, 3}, {map[int]int64{0: 12}, 3}, {map[int]int64{0: 13}, 4},
		{map[int]int64{22: 1}, 1}, {map[int]int64{22: 1, 0: 1}, 1}, {map[int]int64{22: 1, 1: 1}, 2}, {map[int]int64{5: 4}, 1}, {map[int]int64{5: 3, 6: 1}, 2},
		{map[int]int64{22: 2, 1: 1}, 2}, {map[int]int64{22: 2, 2: 1}, 3},
	} {
		if got, code := impl.LeastRolls(full, fullRace(c.own, one)); got != c.want || code != impl.ErrNone {
			t.Errorf("%v: at least %d rolls, code %d, not %d", c.own, got, code, c.want)
		}
	}
}

// TestLimitsOfGreatestRolls has dice as great as the home points, or greater, and checkers that are
// home, or not.
func TestLimitsOfGreatestRolls(t *testing.T) {
	for _, c := range []struct {
		v        impl.Variant
		own      []int64
		want     int64
		wantCode int64
	}{
		{variant(6, 2, 2, 2), list(0, 0, 0, 0, 1, 0, 0), 3, impl.ErrNone},
		{variant(6, 2, 2, 2), list(0, 0, 1, 0, 1, 0, 0), 4, impl.ErrNone},
		{variant(6, 2, 2, 3), list(0, 0, 0, 0, 1, 0, 0), 0, impl.ErrNotFound},
		{variant(6, 2, 2, 3), list(1, 0, 1, 0, 0, 0, 0), 0, impl.ErrNotFound},
		{variant(6, 2, 2, 3), list(0, 2, 0, 0, 0, 0, 0), 2, impl.ErrNone},
		{variant(6, 2, 2, 3), list(1, 1, 0, 0, 0, 0, 0), 2, impl.ErrNone},
		{variant(6, 2, 3, 3), list(1, 0, 0, 1, 0, 0, 0), 3, impl.ErrNone},
		{variant(6, 2, 1, 1), list(0, 0, 1, 0, 1, 0, 0), 4, impl.ErrNone},
		{variant(6, 2, 1, 6), list(1, 1, 0, 0, 0, 0, 0), 0, impl.ErrNotFound},
		{variant(6, 2, 1, 6), list(2, 0, 0, 0, 0, 0, 0), 1, impl.ErrNone},
		{variant(6, 2, 6, 6), list(0, 0, 0, 0, 2, 0, 0), 5, impl.ErrNone},
	} {
		b := impl.Board{Own: c.own, Other: list(1, 0, 0, 0, 0, 0, 0)}
		if got, code := impl.GreatestRolls(c.v, b); got != c.want || code != c.wantCode {
			t.Errorf("%v: %v: at most %d rolls, code %d, not %d, code %d", c.v, b, got, code, c.want, c.wantCode)
		}
	}
}

// TestMeanBoundsInLowestTerms has bounds by pips and by dice, whole numbers and equal bounds.
func TestMeanBoundsInLowestTerms(t *testing.T) {
	for _, c := range []struct {
		v                      impl.Variant
		own                    map[int]int64
		numerator, denominator int64
	}{
		{impl.FullVariant(), map[int]int64{0: 7}, 3, 1}, {impl.FullVariant(), map[int]int64{0: 14}, 6, 1}, {impl.FullVariant(), map[int]int64{5: 2, 12: 1}, 150, 49},
		{impl.FullVariant(), map[int]int64{2: 1, 3: 1}, 6, 7}, {impl.FullVariant(), map[int]int64{3: 2}, 48, 49}, {impl.FullVariant(), map[int]int64{6: 7}, 6, 1},
		{variant(24, 15, 6, 1), map[int]int64{0: 4}, 1, 1}, {variant(24, 15, 6, 1), map[int]int64{0: 6}, 3, 2}, {variant(24, 15, 6, 1), map[int]int64{7: 1}, 2, 1}, {variant(24, 15, 6, 2), map[int]int64{8: 1}, 2, 1},
		{variant(24, 15, 6, 2), map[int]int64{0: 6}, 2, 1}, {variant(24, 15, 6, 3), map[int]int64{15: 1}, 3, 1}, {variant(24, 15, 6, 4), map[int]int64{1: 1}, 2, 5}, {variant(24, 15, 6, 4), map[int]int64{2: 1}, 12, 25},
	} {
		b := fullRace(c.own, map[int]int64{0: 1})
		p, q, code := impl.MeanBound(c.v, b)
		if code != impl.ErrNone || p != c.numerator || q != c.denominator {
			t.Errorf("%v: %v: mean bound %d / %d, code %d, not %d / %d", c.v, c.own, p, q, code, c.numerator, c.denominator)
		}
	}
}

// TestLimitsOfAdvice has sums of the owner up to 30 and beyond, and adjusted counts that are 20 apart,
// or one count more.
func TestLimitsOfAdvice(t *testing.T) {
	v := variant(24, 15, 1, 1)
	for _, c := range []struct {
		own, other map[int]int64
		want       [2]int64
		advice     int64
	}{
		{map[int]int64{1: 6, 2: 1}, map[int]int64{1: 6, 2: 1}, [2]int64{290, 290}, impl.AdviceTake},
		{map[int]int64{2: 6}, map[int]int64{2: 6}, [2]int64{300, 300}, impl.AdviceTake},
		{map[int]int64{2: 5, 3: 1}, map[int]int64{2: 5, 3: 1}, [2]int64{341, 310}, impl.AdviceWait},
		{map[int]int64{2: 6}, map[int]int64{2: 5, 0: 1}, [2]int64{300, 280}, impl.AdviceTake},
		{map[int]int64{2: 6}, map[int]int64{1: 3, 2: 3}, [2]int64{300, 270}, impl.AdviceWait},
		{map[int]int64{1: 4, 2: 2}, map[int]int64{2: 5, 0: 1}, [2]int64{260, 280}, impl.AdviceTake},
		{map[int]int64{1: 5, 2: 1}, map[int]int64{2: 5, 0: 1}, [2]int64{250, 280}, impl.AdvicePass},
		{map[int]int64{7: 5}, map[int]int64{8: 5}, [2]int64{550, 550}, impl.AdviceTake},
		{map[int]int64{2: 5, 3: 1}, map[int]int64{2: 4, 3: 2}, [2]int64{341, 320}, impl.AdviceWait},
		{map[int]int64{2: 5, 3: 1}, map[int]int64{2: 3, 3: 3}, [2]int64{341, 330}, impl.AdviceTake},
		{map[int]int64{2: 5, 3: 1}, map[int]int64{2: 1, 3: 5, 8: 0}, [2]int64{341, 350}, impl.AdviceTake},
		{map[int]int64{2: 5, 3: 1}, map[int]int64{3: 6}, [2]int64{341, 360}, impl.AdviceTake},
		{map[int]int64{2: 5, 3: 1}, map[int]int64{3: 5, 4: 1}, [2]int64{341, 370}, impl.AdvicePass},
	} {
		b := fullRace(c.own, c.other)
		x, y, code := impl.AdjustedCounts(v, b)
		advice, adviceCode := impl.RaceAdvice(v, b)
		if got := [2]int64{x, y}; got != c.want || code != impl.ErrNone || advice != c.advice || adviceCode != impl.ErrNone {
			t.Errorf("%v: adjusted counts %v, code %d, advice %d, code %d, not %v and %d", b, got, code, advice, adviceCode, c.want, c.advice)
		}
	}
}

// TestAdjustedCountsOfHomePoints has several checkers on a home point, which counts once, and checkers
// next to the home points.
func TestAdjustedCountsOfHomePoints(t *testing.T) {
	for _, c := range []struct {
		home int64
		own  map[int]int64
		want int64
	}{
		{6, map[int]int64{0: 1}, 30}, {6, map[int]int64{0: 2}, 70}, {6, map[int]int64{1: 2}, 70}, {6, map[int]int64{0: 1, 1: 1}, 60}, {6, map[int]int64{5: 2}, 150}, {6, map[int]int64{6: 2}, 180}, {7, map[int]int64{6: 2}, 170},
		{1, map[int]int64{0: 2, 1: 2}, 150}, {2, map[int]int64{0: 2, 1: 2}, 140}, {24, map[int]int64{21: 1}, 230}, {21, map[int]int64{21: 1}, 240}, {22, map[int]int64{21: 1}, 230},
	} {
		b := fullRace(c.own, map[int]int64{0: 1})
		if got, other, code := impl.AdjustedCounts(variant(24, 2+2, c.home, 6), b); got != c.want || other != 30 || code != impl.ErrNone {
			t.Errorf("home %d: %v: adjusted counts %d and %d, code %d, not %d and 30", c.home, c.own, got, other, code, c.want)
		}
	}
}

// TestLimitsOfSureWinners has greatest numbers equal to the least number of the opponent, which is
// enough for the player who rolls first alone.
func TestLimitsOfSureWinners(t *testing.T) {
	full := impl.FullVariant()
	useless := variant(24, 15, 5, 6)
	for _, c := range []struct {
		v          impl.Variant
		own, other map[int]int64
		want       int64
	}{
		{full, map[int]int64{0: 2}, map[int]int64{0: 1}, 1}, {full, map[int]int64{0: 3}, map[int]int64{0: 4}, 0}, {full, map[int]int64{0: 3}, map[int]int64{0: 5}, 1}, {full, map[int]int64{0: 5}, map[int]int64{0: 5}, 0},
		{full, map[int]int64{0: 5}, map[int]int64{0: 2}, -1}, {full, map[int]int64{0: 5}, map[int]int64{0: 3}, 0}, {full, map[int]int64{0: 9}, map[int]int64{0: 4}, -1}, {full, map[int]int64{0: 9}, map[int]int64{0: 5}, 0},
		{full, map[int]int64{0: 4}, map[int]int64{0: 2}, 0}, {full, map[int]int64{3: 1}, map[int]int64{19: 1, 4: 1}, 1}, {full, map[int]int64{4: 1}, map[int]int64{18: 1, 5: 1}, 0}, {full, map[int]int64{3: 1}, map[int]int64{19: 1, 3: 1}, 0},
		{useless, map[int]int64{0: 2}, map[int]int64{5: 1}, 1}, {useless, map[int]int64{5: 1}, map[int]int64{0: 1}, 0}, {useless, map[int]int64{5: 4, 0: 1}, map[int]int64{0: 2}, -1}, {useless, map[int]int64{5: 4, 0: 1}, map[int]int64{0: 3}, 0},
		{useless, map[int]int64{5: 1}, map[int]int64{17: 15}, 0}, {useless, map[int]int64{17: 15}, map[int]int64{5: 1}, 0}, {full, map[int]int64{5: 1}, map[int]int64{17: 15}, 1}, {full, map[int]int64{17: 15}, map[int]int64{5: 1}, -1},
	} {
		b := fullRace(c.own, c.other)
		if got, code := impl.SureWinner(c.v, b); got != c.want || code != impl.ErrNone {
			t.Errorf("%v: %v against %v: sure winner %d, code %d, not %d", c.v, c.own, c.other, got, code, c.want)
		}
	}
}

// A wayHome tells how many rolls a side needs: with the luckiest rolls and best plays, with the
// unluckiest rolls and worst plays (or never, if a roll is useless), and with the best plays on average.
type wayHome struct {
	fewest int64
	most   int64
	never  bool
	mean   *big.Rat
}

// waysHome finds them from the plays alone. The keys are texts of sides.
type waysHome struct {
	v    impl.Variant
	ways map[string]wayHome
}

// behindAll returns a race with a side as the checkers of the owner, if no checker is on the last point.
func behindAll(v impl.Variant, side []int64) impl.Board {
	return impl.Board{Own: side, Other: filled(int(v.Points)+1, map[int]int64{0: 1})}
}

// nextSides returns the sides after all plays of a roll.
func nextSides(v impl.Variant, side []int64, r impl.Roll) [][]int64 {
	plays, _ := impl.AllPlays(v, behindAll(v, side), r)
	var sides [][]int64
	for _, p := range plays {
		sides = append(sides, p.Board.Own)
	}
	return sides
}

func (w *waysHome) of(side []int64) wayHome {
	key := fmt.Sprint(side)
	way, found := w.ways[key]
	if !found {
		way = w.found(side)
		w.ways[key] = way
	}
	return way
}

// found follows all plays. A roll without a play leaves the side as it is, so that the mean is divided
// by the chance of the other rolls.
func (w *waysHome) found(side []int64) wayHome {
	if sumOf(side) == 0 {
		return wayHome{mean: ratio(0, 1)}
	}
	way := wayHome{fewest: 1 << 40}
	useful, sum := int64(0), ratio(w.v.Sides*w.v.Sides, 1)
	for _, r := range rollsByRule(w.v) {
		weight := int64(2)
		if r.A == r.B {
			weight = 1
		}
		var least *big.Rat
		for _, next := range nextSides(w.v, side, r) {
			if slices.Equal(next, side) {
				way.never = true
				continue
			}
			after := w.of(next)
			way.fewest = min(way.fewest, after.fewest+1)
			way.most = max(way.most, after.most+1)
			way.never = way.never || after.never
			if least == nil || after.mean.Cmp(least) < 0 {
				least = after.mean
			}
		}
		if least != nil {
			useful += weight
			sum.Add(sum, new(big.Rat).Mul(ratio(weight, 1), least))
		}
	}
	way.mean = sum.Quo(sum, ratio(useful, 1))
	return way
}

// checkBounds compares the bounds of the owner with the numbers of rolls that it may need.
func checkBounds(t *testing.T, v impl.Variant, b impl.Board, way wayHome) {
	t.Helper()
	if least, code := impl.LeastRolls(v, b); code != impl.ErrNone || least > way.fewest || least < 1 {
		t.Errorf("%v: %v: at least %d rolls, code %d, but %d are enough", v, b, least, code, way.fewest)
	}
	if p, q, code := impl.MeanBound(v, b); code != impl.ErrNone || q < 1 || ratio(p, q).Cmp(way.mean) > 0 {
		t.Errorf("%v: %v: mean bound %d / %d, code %d, but the mean is %v", v, b, p, q, code, way.mean)
	}
	greatest, code := impl.GreatestRolls(v, b)
	if code == impl.ErrNone && (way.never || greatest < way.most) {
		t.Errorf("%v: %v: at most %d rolls, but there may be %d, or no end: %v", v, b, greatest, way.most, way.never)
	}
	if code == impl.ErrNotFound && (greatest != 0 || v.Sides <= v.Home || impl.AllHome(v, b)) || code != impl.ErrNone && code != impl.ErrNotFound {
		t.Errorf("%v: %v: at most %d rolls, code %d", v, b, greatest, code)
	}
}

// TestBoundsHoldForAllRollsAndPlays checks the first part of promise 14, for all sides of variants that
// can be in a race.
func TestBoundsHoldForAllRollsAndPlays(t *testing.T) {
	seen := map[string]bool{}
	for _, v := range []impl.Variant{
		variant(3, 6, 2, 2), variant(4, 5, 3, 1), variant(4, 4, 3, 3), variant(4, 3, 1, 6), variant(5, 4, 2, 2), variant(5, 3, 4, 6), variant(5, 3, 2, 3), variant(6, 3, 1, 1), variant(6, 3, 1, 2),
		variant(6, 3, 3, 3), variant(6, 3, 3, 4), variant(7, 2, 6, 6), variant(8, 2, 4, 6), variant(9, 2, 3, 3), variant(9, 9, 1, 1), variant(12, 1, 5, 6), variant(24, 1, 6, 6), variant(24, 1, 4, 5), variant(24, 1, 24, 2),
	} {
		w := &waysHome{v: v, ways: map[string]wayHome{}}
		for _, low := range orderedPositions(v.Points-1, v.Checkers) {
			if sumOf(low) == 0 {
				continue
			}
			side := append(slices.Clone(low), 0, 0)
			way := w.of(side)
			b := behindAll(v, side)
			checkBounds(t, v, b, way)
			noteBounds(v, b, way, seen)
		}
	}
	if len(seen) != 5 {
		t.Error(seen)
	}
}

// noteBounds notes which bounds are met, and whether a roll may be useless.
func noteBounds(v impl.Variant, b impl.Board, way wayHome, seen map[string]bool) {
	least, _ := impl.LeastRolls(v, b)
	p, q, _ := impl.MeanBound(v, b)
	greatest, code := impl.GreatestRolls(v, b)
	notes := map[string]bool{
		"the least number is met":    least == way.fewest && least > 1,
		"the mean bound is met":      ratio(p, q).Cmp(way.mean) == 0,
		"the greatest number is met": code == impl.ErrNone && greatest == way.most && greatest > 1,
		"a roll may be useless":      way.never,
		"all checkers are home, and a die is greater than the home points": impl.AllHome(v, b) && v.Sides > v.Home && code == impl.ErrNone,
	}
	for note, ok := range notes {
		if ok {
			seen[note] = true
		}
	}
}

// TestBoundsOfBearoffPositions compares them with the numbers of chapter 11.
func TestBoundsOfBearoffPositions(t *testing.T) {
	rnd := rand.New(rand.NewSource(42))
	for _, v := range []impl.Variant{variant(4, 4, 3, 3), variant(24, 2, 6, 6), variant(8, 4, 4, 2), variant(6, 8, 2, 6), variant(12, 2, 8, 4), variant(24, 15, 2, 3), variant(5, 5, 4, 1)} {
		for range 25 {
			p := someCheckers(rnd, v)
			b := boardOf(v, p)
			mean, code := impl.ExpectedRolls(v, p)
			most, mostCode := impl.MostRolls(v, p)
			chances, chancesCode := impl.RollsDistribution(v, p)
			if code != impl.ErrNone || mostCode != impl.ErrNone || chancesCode != impl.ErrNone {
				t.Fatal(v, p, code, mostCode, chancesCode)
			}
			fewest := slices.IndexFunc(chances, func(x impl.Exact) bool { return x != impl.Exact{} })
			checkBounds(t, v, b, wayHome{fewest: int64(fewest), most: most, mean: ratioOf(v.Sides, mean)})
		}
	}
}

// winners tells which players can win: the owner, and the other player.
type winners [2]bool

func (w winners) swapped() winners { return winners{w[1], w[0]} }

func (w winners) or(x winners) winners { return winners{w[0] || x[0], w[1] || x[1]} }

// outcomes finds the winners of races from the plays alone. The keys are texts of boards.
type outcomes struct {
	v     impl.Variant
	known map[string]winners
}

// of returns who can win if the owner is on roll. If a roll is useless for both players, the board
// comes back, and then nobody else can win than before.
func (o *outcomes) of(b impl.Board) winners {
	key := fmt.Sprint(b)
	w, found := o.known[key]
	if !found {
		var waits bool
		if w, waits = o.played(b); waits {
			other, _ := o.played(swapped(b))
			w = w.or(other.swapped())
		}
		o.known[key] = w
	}
	return w
}

// played returns who can win after the rolls that are not useless, and whether some roll is.
func (o *outcomes) played(b impl.Board) (winners, bool) {
	var w winners
	waits := false
	for _, r := range rollsByRule(o.v) {
		plays, _ := impl.AllPlays(o.v, b, r)
		for _, p := range plays {
			switch {
			case sameBoard(p.Board, b):
				waits = true
			case sumOf(p.Board.Own) == 0:
				w[0] = true
			default:
				w = w.or(o.of(swapped(p.Board)).swapped())
			}
		}
	}
	return w, waits
}

// TestSureWinnersWin checks the second part of promise 14, for all races of variants.
func TestSureWinnersWin(t *testing.T) {
	for _, v := range []impl.Variant{
		variant(2, 15, 1, 1), variant(2, 9, 2, 3), variant(3, 8, 1, 1), variant(3, 6, 1, 2), variant(3, 5, 3, 3), variant(4, 5, 2, 1), variant(4, 5, 2, 2), variant(4, 5, 1, 3), variant(5, 4, 2, 2),
		variant(5, 3, 2, 3), variant(6, 3, 1, 1), variant(6, 2, 2, 2), variant(7, 3, 3, 2), variant(7, 2, 3, 3), variant(8, 1, 2, 1), variant(12, 2, 1, 1), variant(12, 1, 6, 6), variant(24, 1, 4, 2),
	} {
		o := &outcomes{v: v, known: map[string]winners{}}
		seen := map[int64]int{}
		for _, b := range racesOf(v) {
			winner, code := impl.SureWinner(v, b)
			seen[winner]++
			want := map[int64]winners{1: {true, false}, -1: {false, true}}
			if got := o.of(b); code != impl.ErrNone || winner != 0 && got != want[winner] {
				t.Errorf("%v: %v: sure winner %d, code %d, but the owner and the other player can win: %v", v, b, winner, code, got)
			}
		}
		if v.Checkers > 3 && len(seen) != 3 {
			t.Error(v, seen)
		}
	}
}

// racesOf returns all races of a variant.
func racesOf(v impl.Variant) []impl.Board {
	var races []impl.Board
	eachBoard(v, func(b impl.Board) {
		if raceByRule(v, b) {
			races = append(races, b)
		}
	})
	return races
}

// A player plays a roll: it returns the roll and one of its plays.
type player func(rnd *rand.Rand, v impl.Variant, b impl.Board) (impl.Roll, impl.Play)

func playsOf(v impl.Variant, b impl.Board, r impl.Roll) []impl.Play {
	plays, _ := impl.AllPlays(v, b, r)
	return plays
}

func playsAtRandom(rnd *rand.Rand, v impl.Variant, b impl.Board) (impl.Roll, impl.Play) {
	r := rollByRule(1+rnd.Int63n(v.Sides), 1+rnd.Int63n(v.Sides))
	plays := playsOf(v, b, r)
	return r, plays[rnd.Intn(len(plays))]
}

// playsFast rolls the greatest double and leaves as few checkers, then as few pips, as possible.
func playsFast(_ *rand.Rand, v impl.Variant, b impl.Board) (impl.Roll, impl.Play) {
	r := roll(v.Sides, v.Sides)
	return r, slices.MinFunc(playsOf(v, b, r), func(p, q impl.Play) int {
		return int(400*(sumOf(p.Board.Own)-sumOf(q.Board.Own)) + pipsByRule(p.Board.Own) - pipsByRule(q.Board.Own))
	})
}

// playsSlowly takes the roll and the play that leave as many pips as possible.
func playsSlowly(_ *rand.Rand, v impl.Variant, b impl.Board) (impl.Roll, impl.Play) {
	var slowest impl.Play
	var slowestRoll impl.Roll
	for _, r := range rollsByRule(v) {
		for _, p := range playsOf(v, b, r) {
			if slowest.Board.Own == nil || pipsByRule(p.Board.Own) > pipsByRule(slowest.Board.Own) {
				slowest, slowestRoll = p, r
			}
		}
	}
	return slowestRoll, slowest
}

// playOut plays until one of the players has won, and returns which one, and how many rolls of its own
// it had. It gives up after many turns, since rolls may be useless, and then returns false.
func playOut(rnd *rand.Rand, v impl.Variant, b impl.Board, players [2]player) (int, int64, bool) {
	for turn := range 2000 {
		_, p := players[turn%2](rnd, v, b)
		if sumOf(p.Board.Own) == 0 {
			return turn % 2, int64(turn/2 + 1), true
		}
		b = swapped(p.Board)
	}
	return 0, 0, false
}

// TestPlayedOutRaces checks promise 14 by games between players of different speed. Checkers are few
// for the slow ones, who look at all rolls.
func TestPlayedOutRaces(t *testing.T) {
	rnd := rand.New(rand.NewSource(43))
	kinds := []player{playsAtRandom, playsFast, playsSlowly}
	ended := 0
	for i := range 400 {
		v := impl.FullVariant()
		if i%2 == 0 {
			v = randomVariant(rnd)
		}
		v.Checkers = min(v.Checkers, 6)
		b := randomRace(rnd, v)
		sure, _ := impl.SureWinner(v, b)
		who, rolls, ok := playOut(rnd, v, b, [2]player{kinds[i/2%3], kinds[i/6%3]})
		if !ok {
			if v.Sides <= v.Home {
				t.Errorf("%v: %v does not end", v, b)
			}
			continue
		}
		ended++
		seen := b
		if who == 1 {
			seen = swapped(b)
		}
		checkRollsOfRace(t, v, seen, rolls)
		if sure != 0 && sure != int64(1-2*who) {
			t.Errorf("%v: %v: sure winner %d, but the player %d has won", v, b, sure, who)
		}
	}
	if ended < 300 {
		t.Error(ended)
	}
}

func checkRollsOfRace(t *testing.T, v impl.Variant, b impl.Board, rolls int64) {
	t.Helper()
	least, code := impl.LeastRolls(v, b)
	greatest, greatestCode := impl.GreatestRolls(v, b)
	if code != impl.ErrNone || rolls < least || greatestCode == impl.ErrNone && rolls > greatest {
		t.Errorf("%v: %v: %d rolls, not at least %d, code %d, and at most %d, code %d", v, b, rolls, least, code, greatest, greatestCode)
	}
}

// TestFastAndSlowRaces plays alone, with 15 checkers too, and the dice that decide: no roll is faster
// than the greatest double, and none slower than the two smallest dice.
func TestFastAndSlowRaces(t *testing.T) {
	eachRandomRace(44, 300, func(v impl.Variant, b impl.Board) {
		b.Other = filled(int(v.Points)+1, map[int]int64{0: 1})
		for _, r := range []impl.Roll{roll(v.Sides, v.Sides), rollByRule(min(2, v.Sides), 1)} {
			rolls, after := int64(0), b
			for sumOf(after.Own) > 0 && rolls < 400 {
				plays := playsOf(v, after, r)
				after = plays[len(plays)-1].Board
				rolls++
			}
			if sumOf(after.Own) == 0 {
				checkRollsOfRace(t, v, b, rolls)
			} else if v.Sides <= v.Home {
				t.Errorf("%v: %v does not end with %v", v, b, r)
			}
		}
	})
}

// TestExchangedRaces looks at races from the other side.
func TestExchangedRaces(t *testing.T) {
	eachRandomRace(45, 1000, func(v impl.Variant, b impl.Board) {
		s := swapped(b)
		own, other := reportOf(t, v, b), reportOf(t, v, s)
		if own.lead != -other.lead {
			t.Errorf("%v: %v: the lead is %d, and exchanged %d", v, b, own.lead, other.lead)
		}
		if own.winner == -1 && other.winner != 1 {
			t.Errorf("%v: %v: the other player wins without the first roll, but not with it", v, b)
		}
		checkReport(t, v, s, reportByRule(v, s))
	})
}

func TestRacesOfInvalidBoards(t *testing.T) {
	for _, b := range invalidBoards() {
		refuseRaceBoard(t, impl.FullVariant(), b, impl.ErrInvalid)
	}
	b := impl.Board{Own: list(2, 0, 0, 0, 0), Other: list(2, 0, 0, 0, 0)}
	for _, v := range []impl.Variant{variant(3, 2, 2, 2), variant(5, 2, 2, 2), variant(4, 1, 2, 2)} {
		refuseRaceBoard(t, v, b, impl.ErrInvalid)
	}
	refuseRaceBoard(t, variant(2, 2, 1, 2), impl.Board{Own: list(0, 1, 0), Other: list(1, 0, 0)}, impl.ErrInvalid)
}

// TestBoardsOfNoVariants uses lists that would fit the number of points, where there are such: races,
// boards with contact, and boards that are over.
func TestBoardsOfNoVariants(t *testing.T) {
	for _, v := range invalidVariants() {
		refuseRaceBoard(t, v, impl.Board{}, impl.ErrInvalid)
		for _, size := range []int{1, 2, 3, 25, 26} {
			one := filled(size, map[int]int64{0: 1})
			last := filled(size, map[int]int64{size - 1: 1})
			for _, b := range []impl.Board{{Own: one, Other: one}, {Own: last, Other: last}, {Own: one, Other: make([]int64, size)}} {
				refuseRaceBoard(t, v, b, impl.ErrInvalid)
			}
		}
	}
}

// TestBoardsThatAreNoRaces has boards with contact by one pip, by a checker on the bar, and boards that
// are over.
func TestBoardsThatAreNoRaces(t *testing.T) {
	full := impl.FullVariant()
	one, none := map[int]int64{0: 1}, map[int]int64{}
	for _, b := range []impl.Board{
		fullRace(map[int]int64{12: 1}, map[int]int64{12: 1}), fullRace(map[int]int64{0: 14, 13: 1}, map[int]int64{11: 1}), fullRace(map[int]int64{11: 1}, map[int]int64{0: 1, 13: 2}), fullRace(map[int]int64{24: 1}, one),
		fullRace(one, map[int]int64{24: 1}), fullRace(map[int]int64{24: 1}, map[int]int64{24: 1}), fullRace(map[int]int64{23: 1}, map[int]int64{1: 1}), fullRace(none, one), fullRace(one, none), fullRace(none, map[int]int64{24: 15}), fullRace(map[int]int64{24: 15}, none),
	} {
		refuseRaceBoard(t, full, b, impl.ErrState)
	}
	eachVariant(func(v impl.Variant) {
		if start, ok := impl.StartBoard(v); ok && v.Home == 1 && v.Checkers > 1 {
			refuseRaceBoard(t, v, start, impl.ErrState)
		}
	})
}

// TestNearestRaces has checkers that have just passed each other.
func TestNearestRaces(t *testing.T) {
	full := impl.FullVariant()
	for i := range 23 {
		b := fullRace(map[int]int64{i: 1}, map[int]int64{22 - i: 1})
		checkReport(t, full, b, reportByRule(full, b))
		refuseRaceBoard(t, full, fullRace(map[int]int64{i + 1: 1}, map[int]int64{23 - i: 1}), impl.ErrState)
	}
}

// TestRacesKeepBoards gives boards in memories that are larger, and the same list as both sides.
func TestRacesKeepBoards(t *testing.T) {
	v := variant(5, 3, 2, 2)
	for _, race := range racesOf(v) {
		memory := slices.Concat(race.Own, list(77, 88), race.Other, list(99, 66))
		before := slices.Clone(memory)
		b := impl.Board{Own: memory[:6], Other: memory[8:14]}
		want := reportByRule(v, race)
		for range 2 { // nothing is kept from the first time
			checkReport(t, v, b, want)
		}
		if !slices.Equal(memory, before) {
			t.Fatal(memory, before)
		}
	}
	same := list(1, 1, 0, 0, 0, 0, 55)[:6]
	b := impl.Board{Own: same, Other: same}
	checkReport(t, v, b, reportByRule(v, b))
	if !slices.Equal(same[:7], list(1, 1, 0, 0, 0, 0, 55)) {
		t.Fatal(same[:7])
	}
}

// TestRaceBoardsAtTheSameTime calls the functions for the same boards at once.
func TestRaceBoardsAtTheSameTime(t *testing.T) {
	v := variant(4, 3, 2, 3)
	races := racesOf(v)
	var all sync.WaitGroup
	for range 8 {
		all.Go(func() {
			for _, b := range races {
				checkReport(t, v, b, reportByRule(v, b))
				impl.MeanPips(v)
			}
		})
	}
	all.Wait()
}

// TestNothingRunsAfterRaces waits for those goroutines that are about to end: none may remain.
func TestNothingRunsAfterRaces(t *testing.T) {
	before := runtime.NumGoroutine()
	eachRandomRace(46, 500, func(v impl.Variant, b impl.Board) {
		reportOf(t, v, b)
		refuseRaceBoard(t, v, impl.Board{}, impl.ErrInvalid)
	})
	for range 500 {
		if runtime.NumGoroutine() <= before {
			return
		}
		time.Sleep(10 * time.Millisecond)
	}
	t.Errorf("%d goroutines before, %d after", before, runtime.NumGoroutine())
}
