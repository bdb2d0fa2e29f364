package tests

import (
	"math"
	"math/rand"
	"slices"
	"sync"
	"testing"

	"loop.example/g00885/impl"
)

// gameVariants are variants with games of which all boards can be tried. The first ones have home
// points of one player only, the others also points that are at home for both.
func gameVariants() []impl.Variant {
	return []impl.Variant{
		variant(4, 1, 1, 2), variant(4, 2, 2, 2), variant(5, 2, 1, 3), variant(4, 3, 2, 1),
		variant(4, 2, 3, 2), variant(4, 2, 4, 6), variant(5, 2, 3, 4),
	}
}

// fieldsOf has everything of a game but its board.
func fieldsOf(g impl.Game) [7]int64 {
	return [7]int64{g.Player, g.Roll.A, g.Roll.B, g.Phase, g.Winner, g.Result, g.Turns}
}

func sameGame(g, h impl.Game) bool {
	return sameBoard(g.Board, h.Board) && fieldsOf(g) == fieldsOf(h)
}

func zeroGame(g impl.Game) bool { return zeroBoard(g.Board) && fieldsOf(g) == [7]int64{} }

func cloneOf(g impl.Game) impl.Game {
	g.Board = impl.Board{Own: slices.Clone(g.Board.Own), Other: slices.Clone(g.Board.Other)}
	return g
}

func swapped(b impl.Board) impl.Board { return impl.Board{Own: b.Other, Other: b.Own} }

// resultByRule expects a board that is over.
func resultByRule(v impl.Variant, b impl.Board) int64 {
	loser := b.Other
	if sumOf(b.Own) > 0 {
		loser = b.Own
	}
	if sumOf(loser) < v.Checkers {
		return 1
	}
	for _, i := range placesOf(loser) {
		if i == v.Points || i >= v.Points-v.Home {
			return 3
		}
	}
	return 2
}

// validByRule follows the definition of valid games.
func validByRule(v impl.Variant, g impl.Game) bool {
	if !impl.IsVariant(v) || v.Points < 4 || !impl.IsBoard(v, g.Board) {
		return false
	}
	if g.Player != 0 && g.Player != 1 || g.Turns < 0 || g.Turns > 2000 {
		return false
	}
	isOver := sumOf(g.Board.Own) == 0 || sumOf(g.Board.Other) == 0
	undecided := !isOver && g.Winner == 0 && g.Result == 0
	noRoll := g.Roll == impl.Roll{}
	switch g.Phase {
	case 0:
		start, _ := impl.StartBoard(v)
		return sameBoard(g.Board, start) && fieldsOf(g) == [7]int64{}
	case 1:
		return undecided && noRoll
	case 2:
		return undecided && slices.Contains(rollsByRule(v), g.Roll)
	case 3:
		if !noRoll || g.Winner != 0 && g.Winner != 1 {
			return false
		}
		if isOver {
			return sumOf(g.Board.Own) == 0 && g.Winner == g.Player && g.Result == resultByRule(v, g.Board)
		}
		return g.Winner != g.Player && g.Result >= 1 && g.Result <= 3
	}
	return false
}

// playedByRule returns the game after a play that leads to a board seen by the same player.
func playedByRule(v impl.Variant, g impl.Game, after impl.Board) impl.Game {
	if sumOf(after.Own) == 0 {
		return impl.Game{Board: after, Player: g.Player, Phase: 3, Winner: g.Player, Result: resultByRule(v, after), Turns: g.Turns + 1}
	}
	return impl.Game{Board: swapped(after), Player: 1 - g.Player, Phase: 1, Turns: g.Turns + 1}
}

func inRoll(b impl.Board, player, turns int64) impl.Game {
	return impl.Game{Board: b, Player: player, Phase: impl.PhaseRoll, Turns: turns}
}

func inPlay(b impl.Board, player, turns int64, r impl.Roll) impl.Game {
	return impl.Game{Board: b, Player: player, Phase: impl.PhasePlay, Roll: r, Turns: turns}
}

// endedGames are valid games that are over, one won on each board and some resigned.
func endedGames(v impl.Variant) []impl.Game {
	side := filled(int(v.Points)+1, map[int]int64{0: 1})
	none := make([]int64, v.Points+1)
	won := impl.Board{Own: none, Other: side}
	both := impl.Board{Own: side, Other: side}
	var games []impl.Game
	for _, turns := range list(0, 3, 2000) {
		for player := range int64(2) {
			games = append(games,
				impl.Game{Board: won, Player: player, Phase: 3, Winner: player, Result: resultByRule(v, won), Turns: turns},
				impl.Game{Board: both, Player: player, Phase: 3, Winner: 1 - player, Result: 1 + turns%3, Turns: turns})
		}
	}
	return games
}

// someGames are valid games in all phases.
func someGames(v impl.Variant) []impl.Game {
	start, _ := impl.StartBoard(v)
	side := filled(int(v.Points)+1, map[int]int64{0: 1})
	games := append(endedGames(v), impl.Game{Board: start})
	for _, b := range []impl.Board{start, {Own: side, Other: side}} {
		for player := range int64(2) {
			for _, turns := range list(0, 1, 1999, 2000) {
				games = append(games, inRoll(b, player, turns))
				for _, r := range rollsByRule(v) {
					games = append(games, inPlay(b, player, turns, r))
				}
			}
		}
	}
	return games
}

// strangeNumbers are numbers that no field of a small game can have.
func strangeNumbers() []int64 {
	return list(math.MinInt64, math.MinInt64+1, -1<<32, -2, -1, 2001, 1<<32, 1<<32+1, math.MaxInt64-1, math.MaxInt64)
}

func TestConstantsOfGames(t *testing.T) {
	constants := [5]int64{impl.PhaseOpening, impl.PhaseRoll, impl.PhasePlay, impl.PhaseOver, impl.MaxTurns}
	if constants != [5]int64{0, 1, 2, 3, 2000} {
		t.Error(constants)
	}
}

func checkResult(t *testing.T, v impl.Variant, b impl.Board, want int64) {
	t.Helper()
	if got := impl.ResultOf(v, b); got != want {
		t.Errorf("%v: %v has the result %d, not %d", v, b, got, want)
	}
	if got := impl.ResultOf(v, swapped(b)); got != want {
		t.Errorf("%v: %v swapped has the result %d, not %d", v, b, got, want)
	}
}

func TestResultsOfBoards(t *testing.T) {
	eachTestBoard(func(v impl.Variant, b impl.Board) {
		if sumOf(b.Own) > 0 && sumOf(b.Other) > 0 {
			checkResult(t, v, b, 0)
			return
		}
		checkResult(t, v, b, resultByRule(v, b))
	})
	for _, v := range stepVariants() {
		for _, side := range sidesOf(v) {
			if b := (impl.Board{Own: make([]int64, v.Points+1), Other: side}); sumOf(side) > 0 {
				checkResult(t, v, b, resultByRule(v, b))
			}
		}
	}
}

// TestResultsOfAllVariants has for every variant a side on the last points before and behind the
// border of the home of the winner.
func TestResultsOfAllVariants(t *testing.T) {
	eachVariant(func(v impl.Variant) {
		size := int(v.Points) + 1
		none := make([]int64, size)
		for _, i := range list(0, v.Points-v.Home-1, v.Points-v.Home, v.Points-v.Home+1, v.Points-1, v.Points) {
			if i < 0 || i > v.Points {
				continue
			}
			want := int64(2)
			if i >= v.Points-v.Home {
				want = 3
			}
			side := filled(size, map[int]int64{0: v.Checkers - 1})
			side[i]++
			if v.Home == v.Points {
				want = 3
			}
			checkResult(t, v, impl.Board{Own: none, Other: side}, want)
			if v.Checkers > 1 {
				checkResult(t, v, impl.Board{Own: none, Other: filled(size, map[int]int64{int(i): v.Checkers - 1})}, 1)
			}
		}
	})
}

func TestExamplesOfResults(t *testing.T) {
	full := impl.FullVariant()
	none := make([]int64, 25)
	for _, c := range []struct {
		side map[int]int64
		want int64
	}{
		{map[int]int64{0: 1}, 1}, {map[int]int64{24: 1}, 1}, {map[int]int64{24: 14}, 1}, {map[int]int64{18: 7, 23: 7}, 1},
		{map[int]int64{0: 15}, 2}, {map[int]int64{17: 15}, 2}, {map[int]int64{6: 14, 17: 1}, 2},
		{map[int]int64{0: 14, 18: 1}, 3}, {map[int]int64{0: 14, 23: 1}, 3}, {map[int]int64{0: 14, 24: 1}, 3}, {map[int]int64{18: 15}, 3},
	} {
		checkResult(t, full, impl.Board{Own: none, Other: filled(25, c.side)}, c.want)
	}
	start, _ := impl.StartBoard(full)
	checkResult(t, full, start, 0)
	checkResult(t, full, impl.Board{Own: none, Other: start.Other}, 3)
	// Without the border of a home: every point is one of the home.
	checkResult(t, variant(2, 2, 2, 1), impl.Board{Own: list(0, 0, 0), Other: list(2, 0, 0)}, 3)
	checkResult(t, variant(2, 2, 1, 1), impl.Board{Own: list(0, 0, 0), Other: list(2, 0, 0)}, 2)
}

func TestNoResults(t *testing.T) {
	for _, b := range invalidBoards() {
		checkResult(t, impl.FullVariant(), b, 0)
	}
	for _, v := range invalidVariants() {
		for _, size := range []int{0, 1, 2, 3, 5, 25, 26} {
			checkResult(t, v, impl.Board{Own: filled(max(size, 1), map[int]int64{0: 1}), Other: make([]int64, size)}, 0)
		}
	}
	checkResult(t, variant(5, 2, 2, 2), impl.Board{Own: list(0, 0, 0, 0, 0), Other: list(1, 0, 0, 0, 0)}, 0)
	checkResult(t, variant(4, 2, 2, 2), impl.Board{Own: list(0, 0, 0, 0, 0), Other: list(3, 0, 0, 0, 0)}, 0)
}

func checkValid(t *testing.T, v impl.Variant, g impl.Game) {
	t.Helper()
	if got, want := impl.IsGame(v, g), validByRule(v, g); got != want {
		t.Errorf("%v: %+v is valid: %t, not %t", v, g, got, want)
	}
}

// eachField calls f for all fields that are at most a little beyond their limits.
func eachField(f func(g impl.Game)) {
	rolls := []impl.Roll{{}, roll(1, 1), roll(2, 1), roll(1, 2), roll(2, 2), roll(3, 1), roll(1, 0)}
	for player := int64(-1); player <= 2; player++ {
		for phase := int64(-1); phase <= 4; phase++ {
			for winner := int64(-1); winner <= 2; winner++ {
				for result := int64(-1); result <= 4; result++ {
					for _, r := range rolls {
						for _, turns := range list(-1, 0, 1, 2000, 2001) {
							f(impl.Game{Player: player, Roll: r, Phase: phase, Winner: winner, Result: result, Turns: turns})
						}
					}
				}
			}
		}
	}
}

// TestEveryTinyGame compares IsGame with the definition for all fields and all boards of a variant.
func TestEveryTinyGame(t *testing.T) {
	v := variant(4, 1, 1, 2)
	boards := []impl.Board{{}, {Own: list(0, 0, 0, 0, 0), Other: list(0, 0, 0, 0, 0)}, {Own: list(1, 0, 0, 0, 0), Other: list(0, 0, 0, 1, 0)}}
	eachBoard(v, func(b impl.Board) { boards = append(boards, b) })
	valid := 0
	for _, b := range boards {
		eachField(func(g impl.Game) {
			g.Board = b
			checkValid(t, v, g)
			if validByRule(v, g) {
				valid++
			}
		})
	}
	// Of 31 valid boards, 10 are over, and the winner sees 5 of these. There is 1 game in the
	// opening; the others have 2 players and 3 numbers of turns, and 21 boards have no roll, or one
	// of 3, or one of 3 results.
	if valid != 1+21*2*3*(1+3)+21*2*3*3+5*2*3 {
		t.Error(valid)
	}
}

func TestGamesOnManyBoards(t *testing.T) {
	rnd := rand.New(rand.NewSource(8))
	var fields []impl.Game
	eachField(func(g impl.Game) { fields = append(fields, g) })
	try := func(v impl.Variant, b impl.Board) {
		for range 20 {
			g := fields[rnd.Intn(len(fields))]
			g.Board = b
			checkValid(t, v, g)
		}
		for player := range int64(2) {
			turns := rnd.Int63n(2001)
			for _, r := range append(rollsByRule(v), impl.Roll{}) {
				checkValid(t, v, inRoll(b, player, turns))
				checkValid(t, v, inPlay(b, player, turns, r))
			}
			for winner := range int64(2) {
				for result := range int64(5) {
					checkValid(t, v, impl.Game{Board: b, Player: player, Phase: 3, Winner: winner, Result: result, Turns: turns})
				}
			}
		}
		checkValid(t, v, impl.Game{Board: b})
	}
	for _, v := range gameVariants() {
		eachBoard(v, func(b impl.Board) { try(v, b) })
	}
	eachRandomBoard(try)
}

// TestOnlyTheBeginningHasTheOpening moves one checker of the start, or one of both players.
func TestOnlyTheBeginningHasTheOpening(t *testing.T) {
	for _, v := range append(gameVariants(), impl.FullVariant()) {
		start, _ := impl.StartBoard(v)
		for _, s := range steps(step(v.Points-1, v.Points-2, 1), step(v.Points-1, v.Points, 1), step(v.Points/2-1, 0, 1), step(v.Points-1, v.Points-1, 1)) {
			own := slices.Clone(start.Own)
			own[s.From]--
			own[s.To]++
			checkValid(t, v, impl.Game{Board: impl.Board{Own: own, Other: start.Other}})
			checkValid(t, v, impl.Game{Board: impl.Board{Own: start.Own, Other: own}})
			checkValid(t, v, impl.Game{Board: impl.Board{Own: own, Other: own}})
		}
		fewer := slices.Clone(start.Own)
		fewer[v.Points/2-1]--
		checkValid(t, v, impl.Game{Board: impl.Board{Own: fewer, Other: start.Other}})
		checkValid(t, v, impl.Game{Board: impl.Board{Own: start.Own, Other: fewer}})
	}
}

// changedGames has the games that differ from g by one field.
func changedGames(g impl.Game, numbers []int64) []impl.Game {
	var games []impl.Game
	for _, n := range numbers {
		fields := [7]impl.Game{g, g, g, g, g, g, g}
		fields[0].Player, fields[1].Roll.A, fields[2].Roll.B, fields[3].Phase = n, n, n, n
		fields[4].Winner, fields[5].Result, fields[6].Turns = n, n, n
		games = append(games, fields[:]...)
	}
	return games
}

func TestStrangeFields(t *testing.T) {
	for _, v := range []impl.Variant{impl.FullVariant(), variant(4, 2, 2, 2)} {
		for _, g := range someGames(v) {
			checkValid(t, v, g)
			if !impl.IsGame(v, g) {
				t.Errorf("%v: %+v is not valid", v, g)
			}
			for _, h := range changedGames(g, strangeNumbers()) {
				if impl.IsGame(v, h) {
					t.Errorf("%v: %+v is valid", v, h)
				}
			}
			for _, h := range changedGames(g, list(0, 1, 2, 3, 4, 5, 6, 7, 1999, 2000)) {
				checkValid(t, v, h)
			}
		}
	}
}

func checkGame(t *testing.T, v impl.Variant, name string, want impl.Game, g impl.Game, code int64) {
	t.Helper()
	if code != impl.ErrNone || !sameGame(g, want) {
		t.Errorf("%v: %s: %+v, code %d, not %+v", v, name, g, code, want)
	}
	if !impl.IsGame(v, g) || !validByRule(v, g) {
		t.Errorf("%v: %s: %+v is not valid", v, name, g)
	}
}

func refuseGame(t *testing.T, v impl.Variant, name string, want int64, g impl.Game, code int64) {
	t.Helper()
	if code != want || !zeroGame(g) {
		t.Errorf("%v: %s: %+v, code %d, not %d", v, name, g, code, want)
	}
}

func TestNewGames(t *testing.T) {
	eachVariant(func(v impl.Variant) {
		g, code := impl.NewGame(v)
		if v.Points < 4 {
			refuseGame(t, v, "new", impl.ErrRange, g, code)
			return
		}
		start, _ := impl.StartBoard(v)
		checkGame(t, v, "new", impl.Game{Board: start}, g, code)
	})
	for _, v := range invalidVariants() {
		g, code := impl.NewGame(v)
		refuseGame(t, v, "new", impl.ErrInvalid, g, code)
	}
	full := impl.FullVariant()
	g, _ := impl.NewGame(full)
	if own, other := impl.PipCounts(full, g.Board); own != 167 || other != 167 {
		t.Error(own, other)
	}
}

// diceOfGames are numbers of dice, some of which no variant has.
func diceOfGames() []int64 {
	return list(math.MinInt64, -1<<32, -1, 0, 1, 2, 3, 4, 5, 6, 7, 1<<32, 1<<32+1, math.MaxInt64)
}

func checkOpening(t *testing.T, v impl.Variant, a, b int64) {
	t.Helper()
	start, _ := impl.StartBoard(v)
	g, code := impl.OpeningRoll(v, impl.Game{Board: start}, a, b)
	switch {
	case a < 1 || a > v.Sides || b < 1 || b > v.Sides:
		refuseGame(t, v, "opening", impl.ErrRange, g, code)
	case a == b:
		checkGame(t, v, "opening", impl.Game{Board: start}, g, code)
	case a > b:
		checkGame(t, v, "opening", inPlay(start, 0, 0, roll(a, b)), g, code)
	default:
		checkGame(t, v, "opening", inPlay(start, 1, 0, roll(b, a)), g, code)
	}
}

func TestOpeningRolls(t *testing.T) {
	eachVariant(func(v impl.Variant) {
		if v.Points < 4 || v.Home > 1 && v != impl.FullVariant() {
			return
		}
		for a := range v.Sides {
			for b := range v.Sides {
				checkOpening(t, v, a+1, b+1)
			}
		}
		checkOpening(t, v, 0, 1)
		checkOpening(t, v, 1, 0)
		checkOpening(t, v, v.Sides+1, 1)
		checkOpening(t, v, 1, v.Sides+1)
	})
	for _, v := range append(gameVariants(), impl.FullVariant()) {
		for _, a := range diceOfGames() {
			for _, b := range diceOfGames() {
				checkOpening(t, v, a, b)
			}
		}
	}
}

func TestExamplesOfOpenings(t *testing.T) {
	full := impl.FullVariant()
	g, _ := impl.NewGame(full)
	for _, c := range []struct {
		a, b, player int64
		r            impl.Roll
	}{{3, 1, 0, roll(3, 1)}, {1, 3, 1, roll(3, 1)}, {6, 5, 0, roll(6, 5)}, {5, 6, 1, roll(6, 5)}} {
		h, code := impl.OpeningRoll(full, g, c.a, c.b)
		if code != impl.ErrNone || h.Player != c.player || h.Roll != c.r || h.Phase != impl.PhasePlay || h.Turns != 0 {
			t.Errorf("%v: %+v, code %d", c, h, code)
		}
	}
	if h, code := impl.OpeningRoll(full, g, 4, 4); code != impl.ErrNone || !sameGame(g, h) {
		t.Errorf("%+v, code %d", h, code)
	}
}

func TestRolledDice(t *testing.T) {
	try := func(v impl.Variant, b impl.Board) {
		if sumOf(b.Own) == 0 || sumOf(b.Other) == 0 || v.Points < 4 {
			return
		}
		for player := range int64(2) {
			for _, turns := range list(0, 7, 2000) {
				for _, r := range rollsByRule(v) {
					g, code := impl.RollDice(v, inRoll(b, player, turns), r)
					checkGame(t, v, "roll", inPlay(b, player, turns, r), g, code)
				}
			}
		}
	}
	for _, v := range gameVariants() {
		eachBoard(v, func(b impl.Board) { try(v, b) })
	}
	rnd := rand.New(rand.NewSource(9))
	for range 200 {
		try(impl.FullVariant(), randomBoard(rnd, impl.FullVariant()))
	}
}

func TestDiceThatAreNoRoll(t *testing.T) {
	for _, v := range append(gameVariants(), impl.FullVariant()) {
		start, _ := impl.StartBoard(v)
		for _, r := range strangeRolls(v.Sides) {
			g, code := impl.RollDice(v, inRoll(start, 1, 4), r)
			refuseGame(t, v, "roll", impl.ErrRange, g, code)
		}
	}
}

func checkPlayed(t *testing.T, v impl.Variant, g impl.Game, p impl.Play) {
	t.Helper()
	after, code := impl.PlayTurn(v, g, p.Steps)
	if g.Turns == 2000 {
		refuseGame(t, v, "turn", impl.ErrLimit, after, code)
		return
	}
	checkGame(t, v, "turn", playedByRule(v, g, p.Board), after, code)
}

// refuseTurns tries steps that are no legal sequence, also after the greatest number of turns.
func refuseTurns(t *testing.T, v impl.Variant, g impl.Game, steps []impl.Step) {
	t.Helper()
	for _, turns := range list(g.Turns, 2000) {
		g.Turns = turns
		after, code := impl.PlayTurn(v, g, steps)
		refuseGame(t, v, "turn", impl.ErrState, after, code)
	}
}

// eachUndecided calls f for all boards and rolls of some tiny variants, for both players.
func eachUndecided(f func(v impl.Variant, g impl.Game)) {
	for _, v := range []impl.Variant{variant(4, 1, 1, 2), variant(4, 2, 2, 2), variant(4, 2, 3, 2), variant(4, 2, 4, 3)} {
		eachBoard(v, func(b impl.Board) {
			if sumOf(b.Own) == 0 || sumOf(b.Other) == 0 {
				return
			}
			for _, r := range rollsByRule(v) {
				f(v, inPlay(b, 0, 1999, r))
				f(v, inPlay(b, 1, 0, r))
				f(v, inPlay(b, b.Own[0]%2, 2000, r))
			}
		})
	}
}

func TestTurnsOfTinyGames(t *testing.T) {
	ends := map[[2]int64]int{}
	eachUndecided(func(v impl.Variant, g impl.Game) {
		legal, _ := legalSequences(v, g.Board, g.Roll)
		for _, p := range legal {
			checkPlayed(t, v, g, p)
			if after := playedByRule(v, g, p.Board); after.Phase == 3 {
				ends[[2]int64{after.Winner, after.Result}]++
			}
		}
		for _, other := range changedSequences(legal[0].Steps) {
			if !slices.ContainsFunc(legal, func(p impl.Play) bool { return slices.Equal(p.Steps, other) }) {
				refuseTurns(t, v, g, other)
			}
		}
	})
	if len(ends) != 6 {
		t.Error("not every player wins with every result:", ends)
	}
}

func TestTurnsOfLargeGames(t *testing.T) {
	rnd := rand.New(rand.NewSource(10))
	for range 400 {
		v := impl.FullVariant()
		b := stepBoard(rnd, v)
		if sumOf(b.Own) == 0 || sumOf(b.Other) == 0 {
			continue
		}
		rolls := rollsByRule(v)
		g := inPlay(b, rnd.Int63n(2), rnd.Int63n(2001), rolls[rnd.Intn(len(rolls))])
		plays, used := playsByRule(v, b, g.Roll)
		checkPlayed(t, v, g, plays[0])
		checkPlayed(t, v, g, plays[rnd.Intn(len(plays))])
		if used > 0 {
			refuseTurns(t, v, g, nil)
		}
		refuseTurns(t, v, g, strangeSteps())
		refuseTurns(t, v, g, steps(strangeSteps()[rnd.Intn(len(strangeSteps()))]))
	}
}

func TestExamplesOfTurns(t *testing.T) {
	v := variant(4, 2, 2, 2)
	for _, c := range []struct {
		g     impl.Game
		steps []impl.Step
		want  impl.Game
	}{
		// nothing can be played
		{inPlay(impl.Board{Own: list(0, 1, 0, 0, 1), Other: list(2, 0, 0, 0, 0)}, 0, 8, roll(1, 1)), nil,
			inRoll(impl.Board{Own: list(2, 0, 0, 0, 0), Other: list(0, 1, 0, 0, 1)}, 1, 9)},
		// a hit
		{inPlay(impl.Board{Own: list(0, 1, 0, 1, 0), Other: list(0, 1, 0, 1, 0)}, 1, 0, roll(2, 1)), steps(step(3, 1, 2), hit(1, 0, 1)),
			inRoll(impl.Board{Own: list(0, 1, 0, 0, 1), Other: list(1, 1, 0, 0, 0)}, 0, 1)},
		// the last checker is borne off: each result, and the last turn of all
		{inPlay(impl.Board{Own: list(1, 0, 0, 0, 0), Other: list(1, 0, 0, 0, 0)}, 0, 1999, roll(2, 1)), steps(step(0, -1, 2)),
			impl.Game{Board: impl.Board{Own: list(0, 0, 0, 0, 0), Other: list(1, 0, 0, 0, 0)}, Phase: 3, Result: 1, Turns: 2000}},
		{inPlay(impl.Board{Own: list(1, 0, 0, 0, 0), Other: list(1, 1, 0, 0, 0)}, 1, 11, roll(1, 1)), steps(step(0, -1, 1)),
			impl.Game{Board: impl.Board{Own: list(0, 0, 0, 0, 0), Other: list(1, 1, 0, 0, 0)}, Player: 1, Phase: 3, Winner: 1, Result: 2, Turns: 12}},
		{inPlay(impl.Board{Own: list(1, 1, 0, 0, 0), Other: list(1, 0, 0, 0, 1)}, 1, 11, roll(2, 1)), steps(step(1, -1, 2), step(0, -1, 1)),
			impl.Game{Board: impl.Board{Own: list(0, 0, 0, 0, 0), Other: list(1, 0, 0, 0, 1)}, Player: 1, Phase: 3, Winner: 1, Result: 3, Turns: 12}},
	} {
		g, code := impl.PlayTurn(v, c.g, c.steps)
		checkGame(t, v, "turn", c.want, g, code)
	}
}

func resultsOfGames() []int64 {
	return list(math.MinInt64, -1<<32, -3, -2, -1, 0, 1, 2, 3, 4, 5, 1<<32+1, math.MaxInt64)
}

func checkResigned(t *testing.T, v impl.Variant, g impl.Game) {
	t.Helper()
	for _, result := range resultsOfGames() {
		h, code := impl.ResignGame(v, g, result)
		if result < 1 || result > 3 {
			refuseGame(t, v, "resign", impl.ErrRange, h, code)
			continue
		}
		want := impl.Game{Board: g.Board, Player: g.Player, Phase: 3, Winner: 1 - g.Player, Result: result, Turns: g.Turns}
		checkGame(t, v, "resign", want, h, code)
	}
}

func TestResignedGames(t *testing.T) {
	for _, v := range append(gameVariants(), impl.FullVariant()) {
		for _, g := range someGames(v) {
			if g.Phase == 1 || g.Phase == 2 {
				checkResigned(t, v, g)
			}
		}
	}
	eachUndecided(func(v impl.Variant, g impl.Game) {
		checkResigned(t, v, g)
		checkResigned(t, v, inRoll(g.Board, g.Player, g.Turns))
	})
}

// TestOtherPhases calls every function in the phases in which it has nothing to do. The phase is
// looked at before the other arguments.
func TestOtherPhases(t *testing.T) {
	for _, v := range append(gameVariants(), impl.FullVariant()) {
		for _, g := range someGames(v) {
			for _, n := range list(math.MinInt64, -1, 0, 1, 2, 3, 7, math.MaxInt64) {
				if g.Phase != 0 {
					h, code := impl.OpeningRoll(v, g, n, 1)
					refuseGame(t, v, "opening", impl.ErrState, h, code)
					h, code = impl.OpeningRoll(v, g, 1, n)
					refuseGame(t, v, "opening", impl.ErrState, h, code)
				}
				if g.Phase != 1 {
					h, code := impl.RollDice(v, g, roll(n, 1))
					refuseGame(t, v, "roll", impl.ErrState, h, code)
				}
				if g.Phase == 0 || g.Phase == 3 {
					h, code := impl.ResignGame(v, g, n)
					refuseGame(t, v, "resign", impl.ErrState, h, code)
				}
			}
			if g.Phase != 2 {
				for _, s := range [][]impl.Step{nil, steps(step(0, -1, 1)), steps(step(v.Points-1, v.Points-2, 1)), strangeSteps()} {
					h, code := impl.PlayTurn(v, g, s)
					refuseGame(t, v, "turn", impl.ErrState, h, code)
				}
			}
		}
	}
}

// refuseAllOf checks what every function with a game returns if v or g is not valid, whatever the
// other arguments are.
func refuseAllOf(t *testing.T, v impl.Variant, g impl.Game) {
	t.Helper()
	if impl.IsGame(v, g) {
		t.Errorf("%v: %+v is valid", v, g)
	}
	for _, n := range list(math.MinInt64, 0, 1, 2, 7) {
		h, code := impl.OpeningRoll(v, g, n, 1)
		refuseGame(t, v, "opening", impl.ErrInvalid, h, code)
		h, code = impl.OpeningRoll(v, g, 1, n)
		refuseGame(t, v, "opening", impl.ErrInvalid, h, code)
		h, code = impl.RollDice(v, g, roll(n, 1))
		refuseGame(t, v, "roll", impl.ErrInvalid, h, code)
		h, code = impl.ResignGame(v, g, n)
		refuseGame(t, v, "resign", impl.ErrInvalid, h, code)
	}
	for _, s := range [][]impl.Step{nil, steps(step(0, -1, 1)), strangeSteps()} {
		h, code := impl.PlayTurn(v, g, s)
		refuseGame(t, v, "turn", impl.ErrInvalid, h, code)
	}
}

func TestInvalidGames(t *testing.T) {
	full := impl.FullVariant()
	for _, v := range []impl.Variant{full, variant(4, 2, 2, 2)} {
		refuseAllOf(t, v, impl.Game{})
		for _, g := range someGames(v) {
			for _, h := range append(changedGames(g, strangeNumbers()), changedGames(g, list(0, 1, 2, 3, 4))...) {
				if !validByRule(v, h) {
					refuseAllOf(t, v, h)
				}
			}
		}
	}
	for _, b := range invalidBoards() {
		for phase := range int64(4) {
			refuseAllOf(t, full, impl.Game{Board: b, Phase: phase})
			refuseAllOf(t, full, impl.Game{Board: b, Phase: phase, Roll: roll(2, 1)})
			refuseAllOf(t, full, impl.Game{Board: b, Phase: phase, Winner: 1, Result: 1})
		}
	}
}

// TestOverBoardsGoOnInNoGame has boards that are over, in the phases before the end, and seen by
// the player who has lost.
func TestOverBoardsGoOnInNoGame(t *testing.T) {
	v := variant(4, 2, 2, 2)
	won := impl.Board{Own: list(0, 0, 0, 0, 0), Other: list(1, 1, 0, 0, 0)}
	for _, b := range []impl.Board{won, swapped(won)} {
		refuseAllOf(t, v, impl.Game{Board: b})
		for player := range int64(2) {
			refuseAllOf(t, v, inRoll(b, player, 3))
			refuseAllOf(t, v, inPlay(b, player, 3, roll(2, 1)))
		}
	}
	for winner := range int64(2) {
		for result := range int64(5) {
			refuseAllOf(t, v, impl.Game{Board: swapped(won), Phase: 3, Winner: winner, Result: result})
			refuseAllOf(t, v, impl.Game{Board: won, Player: 1, Phase: 3, Winner: winner, Result: result + 3})
			if winner != 0 || result != 2 {
				refuseAllOf(t, v, impl.Game{Board: won, Phase: 3, Winner: winner, Result: result})
			}
		}
	}
}

func TestGamesOfInvalidVariants(t *testing.T) {
	games := append(someGames(variant(4, 2, 2, 2)), someGames(impl.FullVariant())[:20]...)
	for _, v := range append(invalidVariants(), variant(5, 2, 2, 2), variant(23, 15, 6, 6), variant(4, 1, 2, 2)) {
		for _, g := range games {
			if !validByRule(v, g) {
				refuseAllOf(t, v, g)
			}
		}
		refuseAllOf(t, v, impl.Game{})
	}
	// Variants without a start have no games, although they have boards.
	for _, points := range list(2, 3) {
		v := variant(points, 1, 1, 2)
		eachBoard(v, func(b impl.Board) {
			refuseAllOf(t, v, impl.Game{Board: b})
			refuseAllOf(t, v, inRoll(b, 0, 1))
			refuseAllOf(t, v, inPlay(b, 0, 1, roll(2, 1)))
			refuseAllOf(t, v, impl.Game{Board: b, Phase: 3, Result: impl.ResultOf(v, b)})
			refuseAllOf(t, v, impl.Game{Board: b, Phase: 3, Winner: 1, Result: 1})
		})
	}
}

// checkSides checks that g is valid, and that its board is that of its player: sides has the
// checkers of both players.
func checkSides(t *testing.T, v impl.Variant, g impl.Game, sides [2][]int64) {
	t.Helper()
	if !impl.IsGame(v, g) || !validByRule(v, g) {
		t.Fatalf("%v: %+v is not valid", v, g)
	}
	if !sameBoard(g.Board, impl.Board{Own: sides[g.Player], Other: sides[1-g.Player]}) {
		t.Fatalf("%v: %+v has not the sides %v", v, g, sides)
	}
}

// randomGame plays at random until the game is over, and is resigned now and then. Openings of
// equal dice are rolled again.
func randomGame(t *testing.T, v impl.Variant, rnd *rand.Rand) impl.Game {
	g, _ := impl.NewGame(v)
	sides := [2][]int64{slices.Clone(g.Board.Own), slices.Clone(g.Board.Other)}
	for turns := int64(0); g.Phase != impl.PhaseOver; {
		checkSides(t, v, g, sides)
		before, code := g, int64(0)
		if g.Turns != turns {
			t.Fatalf("%v: %+v after %d turns", v, g, turns)
		}
		switch {
		case g.Phase == impl.PhaseOpening:
			g, code = impl.OpeningRoll(v, g, 1+rnd.Int63n(v.Sides), 1+rnd.Int63n(v.Sides))
		case rnd.Intn(300) == 0:
			g, code = impl.ResignGame(v, g, 1+rnd.Int63n(3))
		case g.Phase == impl.PhaseRoll:
			rolls := impl.AllRolls(v)
			g, code = impl.RollDice(v, g, rolls[rnd.Intn(len(rolls))])
		default:
			plays, _ := impl.AllPlays(v, g.Board, g.Roll)
			p := plays[rnd.Intn(len(plays))]
			sides[g.Player], sides[1-g.Player] = p.Board.Own, p.Board.Other
			g, code = impl.PlayTurn(v, g, p.Steps)
			turns++
		}
		if code != impl.ErrNone {
			t.Fatalf("%v: code %d after %+v", v, code, before)
		}
	}
	checkSides(t, v, g, sides)
	return g
}

// TestGamesStayValid checks the first half of promise 8.
func TestGamesStayValid(t *testing.T) {
	rnd := rand.New(rand.NewSource(11))
	ends := map[[2]int64]int{}
	for i := range 900 {
		points := 4 + rnd.Int63n(21)
		v := variant(points, 1+rnd.Int63n(15), 1+rnd.Int63n(points), 2+rnd.Int63n(5))
		if i%3 == 0 {
			v = variant(4, 2, 2, 2)
		} else if i%20 == 1 {
			v = impl.FullVariant()
		}
		g := randomGame(t, v, rnd)
		ends[[2]int64{g.Winner, g.Result}]++
	}
	if len(ends) != 6 {
		t.Error(ends)
	}
}

// A stop is a state of a game that plays itself, with the seed that remains.
type stop struct {
	game impl.Game
	seed int64
}

// stopsByRule has the state of a game after each number of turns, up to the end or a number.
func stopsByRule(v impl.Variant, seed int64, most int) []stop {
	start, _ := impl.StartBoard(v)
	var r impl.Roll
	for r.A == r.B {
		r, seed = rolledByRule(v.Sides, seed)
	}
	g := inPlay(start, 0, 0, r)
	stops := []stop{{g, seed}}
	for len(stops) <= most && g.Phase != 3 {
		if g.Phase == 1 {
			g.Roll, seed = rolledByRule(v.Sides, seed)
		}
		plays, _ := playsByRule(v, g.Board, g.Roll)
		g = playedByRule(v, g, plays[0].Board)
		stops = append(stops, stop{g, seed})
	}
	return stops
}

func checkStop(t *testing.T, v impl.Variant, seed, turns int64, want stop) {
	t.Helper()
	g, left, code := impl.SelfPlay(v, seed, turns)
	checkGame(t, v, "self", want.game, g, code)
	if left != want.seed {
		t.Errorf("%v: %d turns from the seed %d: %d remains, not %d", v, turns, seed, left, want.seed)
	}
}

// TestStopsOfTinyGames stops games after every number of turns.
func TestStopsOfTinyGames(t *testing.T) {
	for _, v := range []impl.Variant{variant(4, 1, 1, 2), variant(4, 2, 2, 2), variant(5, 3, 2, 3), variant(6, 4, 3, 6), variant(7, 3, 7, 5), variant(9, 6, 1, 4)} {
		for _, seed := range someSeeds(30) {
			stops := stopsByRule(v, seed, 2000)
			for turns, want := range stops {
				checkStop(t, v, seed, int64(turns), want)
			}
			for _, turns := range list(int64(len(stops)), 1999, 2000) {
				checkStop(t, v, seed, turns, stops[len(stops)-1])
			}
		}
	}
}

func TestStopsOfLargeGames(t *testing.T) {
	rnd := rand.New(rand.NewSource(12))
	for i := range 60 {
		v := impl.FullVariant()
		if i%2 == 0 {
			points := 4 + rnd.Int63n(21)
			v = variant(points, 1+rnd.Int63n(15), 1+rnd.Int63n(points), 2+rnd.Int63n(5))
		}
		seed := 1 + rnd.Int63n(mostSeed)
		stops := stopsByRule(v, seed, 2000)
		for turns := 0; turns < len(stops); turns += 1 + turns/3 {
			checkStop(t, v, seed, int64(turns), stops[turns])
		}
		checkStop(t, v, seed, 2000, stops[len(stops)-1])
	}
}

// goOn plays one more turn of a game that was stopped, with nothing but the functions for games.
func goOn(t *testing.T, v impl.Variant, s stop) stop {
	t.Helper()
	g, seed := s.game, s.seed
	if g.Phase == impl.PhaseRoll {
		r, left, _ := impl.RollFrom(v, seed)
		g, _ = impl.RollDice(v, g, r)
		seed = left
	}
	plays, code := impl.AllPlays(v, g.Board, g.Roll)
	if code != impl.ErrNone {
		t.Fatalf("%v: %+v: code %d", v, g, code)
	}
	g, code = impl.PlayTurn(v, g, plays[0].Steps)
	if code != impl.ErrNone {
		t.Fatalf("%v: %+v: code %d", v, g, code)
	}
	return stop{g, seed}
}

// TestStoppedGamesAreBeginnings checks the second half of promise 8.
func TestStoppedGamesAreBeginnings(t *testing.T) {
	for _, v := range []impl.Variant{variant(4, 2, 2, 2), variant(6, 3, 3, 3), variant(8, 15, 3, 6), variant(24, 15, 6, 2), impl.FullVariant()} {
		for _, seed := range list(leastSeed, 5, 2026, mostSeed) {
			g, left, code := impl.SelfPlay(v, seed, 0)
			if code != impl.ErrNone || g.Phase != impl.PhasePlay {
				t.Fatalf("%v: %+v, code %d", v, g, code)
			}
			s := stop{g, left}
			for turns := int64(1); s.game.Phase != impl.PhaseOver; turns++ {
				s = goOn(t, v, s)
				checkStop(t, v, seed, turns, s)
				if s.game.Turns != turns || s.game.Phase != impl.PhaseRoll && s.game.Phase != impl.PhaseOver {
					t.Fatalf("%v: %+v after %d turns", v, s.game, turns)
				}
			}
			checkStop(t, v, seed, impl.MaxTurns, s)
		}
	}
}

// TestSelfPlayedGames has games that were found by a separate calculation. The board is given by
// its identifier.
func TestSelfPlayedGames(t *testing.T) {
	full, small := impl.FullVariant(), variant(4, 2, 2, 2)
	for _, c := range []struct {
		v           impl.Variant
		seed, turns int64
		id          string
		fields      [7]int64
		left        int64
	}{
		{full, 1, 0, "B84PgAwHzg+ADA", [7]int64{0, 2, 1, 2, 0, 0, 0}, 182605794},
		{full, 1, 1, "B84PgAwHzg+AKA", [7]int64{1, 0, 0, 1, 0, 0, 1}, 182605794},
		{full, 1, 2, "B84PgCgHzg+AKA", [7]int64{0, 0, 0, 1, 0, 0, 2}, 1914720637},
		{full, 1, 10, "E-XeAABLfdAAGA", [7]int64{0, 0, 0, 1, 0, 0, 10}, 2075782095},
		{full, 1, 2000, "AAAAcAAAA", [7]int64{0, 0, 0, 3, 0, 1, 59}, 1498947413},
		{full, 28, 2000, "AAAALf64AAA", [7]int64{1, 0, 0, 3, 1, 2, 36}, 1879381430},
		{full, 64, 2000, "AAAAfffAAAA", [7]int64{0, 0, 0, 3, 0, 2, 39}, 2031690776},
		{full, mostSeed, 33, "u8AAAG76AAAA", [7]int64{1, 0, 0, 1, 0, 0, 33}, 1983806306},
		{full, mostSeed, 2000, "AAAAd2AAAA", [7]int64{1, 0, 0, 3, 1, 1, 38}, 2004239503},
		{small, 5, 0, "SJA", [7]int64{0, 2, 1, 2, 0, 0, 0}, 913028970},
		{small, 5, 1, "RUA", [7]int64{1, 0, 0, 1, 0, 0, 1}, 913028970},
		{small, 5, 2000, "BC", [7]int64{1, 0, 0, 3, 1, 3, 2}, 983668597},
		{variant(4, 1, 1, 2), 3, 2000, "Ag", [7]int64{0, 0, 0, 3, 0, 2, 1}, 547817382},
		{variant(24, 15, 24, 2), 12, 100, "G-fwAAAfv3AAAA", [7]int64{0, 0, 0, 1, 0, 0, 100}, 1882127600},
		{variant(24, 15, 24, 2), 12, 2000, "AAAAf8AAAA", [7]int64{1, 0, 0, 3, 1, 1, 134}, 1035688882},
		{variant(7, 4, 3, 3), 11, 4, "OIPA", [7]int64{0, 0, 0, 1, 0, 0, 4}, 811946967},
		{variant(5, 15, 1, 6), 2, 2000, "A-38A", [7]int64{1, 0, 0, 3, 1, 2, 74}, 257349885},
	} {
		g, left, code := impl.SelfPlay(c.v, c.seed, c.turns)
		if id := impl.BoardId(c.v, g.Board); code != impl.ErrNone || id != c.id || fieldsOf(g) != c.fields || left != c.left {
			t.Errorf("%v: seed %d, %d turns: %q %v, %d remains, code %d", c.v, c.seed, c.turns, id, fieldsOf(g), left, code)
		}
	}
}

// TestLongOpenings has the seeds with the most equal dice before the first different ones, for
// each number of sides. A search of all seeds found them: none has 100, so that no seed leads to
// ErrLimit.
func TestLongOpenings(t *testing.T) {
	for _, c := range []struct {
		sides, seed int64
		equal       int
	}{{2, 953590914, 29}, {3, 1165687445, 18}, {4, 2140792724, 14}, {5, 195282007, 13}, {6, 958783978, 11}} {
		v := variant(4, 2, 2, c.sides)
		rolls := rollsFromByRule(c.sides, c.seed)
		if n := slices.IndexFunc(rolls, func(r impl.Roll) bool { return r.A != r.B }); n != c.equal {
			t.Fatal(c, n)
		}
		left := c.seed
		for range 2 * (c.equal + 1) {
			left = seedAfterByRule(left)
		}
		start, _ := impl.StartBoard(v)
		checkStop(t, v, c.seed, 0, stop{inPlay(start, 0, 0, rolls[c.equal]), left})
		stops := stopsByRule(v, c.seed, 2000)
		checkStop(t, v, c.seed, 2000, stops[len(stops)-1])
	}
}

func refuseSelfPlay(t *testing.T, v impl.Variant, seed, turns, want int64) {
	t.Helper()
	g, left, code := impl.SelfPlay(v, seed, turns)
	refuseGame(t, v, "self", want, g, code)
	if left != 0 {
		t.Errorf("%v: %d turns from the seed %d: %d remains", v, turns, seed, left)
	}
}

// noTurns are numbers of turns out of their range.
func noTurns() []int64 {
	return list(math.MinInt64, -1<<32, -2, -1, 2001, 2002, 1<<32, 1<<32+1, math.MaxInt64)
}

func TestNoSelfPlay(t *testing.T) {
	for _, v := range append(gameVariants(), impl.FullVariant(), variant(24, 15, 6, 1)) {
		for _, turns := range append(noTurns(), 0, 1, 2000) {
			for _, seed := range noSeeds() {
				refuseSelfPlay(t, v, seed, turns, impl.ErrRange)
			}
		}
		for _, seed := range list(leastSeed, 5, mostSeed) {
			for _, turns := range noTurns() {
				refuseSelfPlay(t, v, seed, turns, impl.ErrRange)
			}
		}
	}
	for _, v := range []impl.Variant{variant(4, 1, 1, 1), variant(4, 2, 2, 1), variant(24, 15, 6, 1)} {
		for _, seed := range list(leastSeed, 5, mostSeed) {
			for _, turns := range list(0, 1, 2000) {
				refuseSelfPlay(t, v, seed, turns, impl.ErrState)
			}
		}
	}
}

func TestSelfPlayOfOtherVariants(t *testing.T) {
	seeds := append(noSeeds(), leastSeed, 5, mostSeed)
	for _, seed := range seeds {
		for _, turns := range append(noTurns(), 0, 1, 2000) {
			for _, v := range invalidVariants() {
				refuseSelfPlay(t, v, seed, turns, impl.ErrInvalid)
			}
			for _, v := range []impl.Variant{variant(2, 1, 1, 1), variant(3, 1, 1, 1), variant(2, 2, 1, 2), variant(3, 15, 3, 6)} {
				refuseSelfPlay(t, v, seed, turns, impl.ErrRange)
			}
		}
	}
}

// nextGames calls every function with a game in all ways that lead to another game.
func nextGames(v impl.Variant, g impl.Game, s []impl.Step) []impl.Game {
	var games []impl.Game
	add := func(h impl.Game, code int64) {
		if code == impl.ErrNone {
			games = append(games, h)
		}
	}
	add(impl.OpeningRoll(v, g, 1, 1))
	add(impl.OpeningRoll(v, g, 2, 1))
	add(impl.OpeningRoll(v, g, 1, 2))
	add(impl.RollDice(v, g, roll(2, 1)))
	add(impl.ResignGame(v, g, 2))
	add(impl.PlayTurn(v, g, s))
	return games
}

// TestGamesAreNew has games whose boards have room behind them, and the same memory twice. It
// overwrites every game that comes from them, and asks again.
func TestGamesAreNew(t *testing.T) {
	v := variant(4, 2, 2, 2)
	memory := list(0, 1, 0, 1, 0, 77, 88, 66, 55, 44, 33, 22)
	others := list(0, 0, 1, 0, 1, 11, 12, 13)
	before, othersBefore := slices.Clone(memory), slices.Clone(others)
	twice := impl.Board{Own: memory[:5], Other: memory[:5]}
	s := steps(step(3, 1, 2), hit(1, 0, 1), step(9, 9, 9))[:2]
	bearing := impl.Board{Own: list(1, 0, 0, 0, 0, 9)[:5], Other: others[:5]}
	for _, c := range []struct {
		g     impl.Game
		steps []impl.Step
		n     int
	}{
		{impl.Game{Board: twice}, s, 3}, {inRoll(twice, 1, 2), s, 2}, {inPlay(twice, 1, 2, roll(2, 1)), s, 2},
		{inPlay(bearing, 0, 2, roll(1, 1)), steps(step(0, -1, 1)), 2},
	} {
		want := nextGames(v, c.g, c.steps)
		for i, g := range want {
			want[i] = cloneOf(g)
		}
		for range 2 { // nothing is kept from the first time
			games := nextGames(v, c.g, c.steps)
			if len(games) != c.n || !slices.EqualFunc(games, want, sameGame) {
				t.Fatalf("%+v, not %+v", games, want)
			}
			for _, g := range games {
				own := slices.Clone(g.Board.Own)
				spoil(impl.Board{Other: g.Board.Other})
				if !slices.Equal(own, g.Board.Own) {
					t.Errorf("%+v: the sides share memory", g)
				}
				spoil(g.Board)
			}
			if !slices.Equal(memory, before) || !slices.Equal(others, othersBefore) || !slices.Equal(s[:3], steps(step(3, 1, 2), hit(1, 0, 1), step(9, 9, 9))) {
				t.Fatal(memory, others, s[:3])
			}
		}
	}
}

func TestFirstGamesAreNew(t *testing.T) {
	for _, v := range []impl.Variant{impl.FullVariant(), variant(4, 2, 2, 2)} {
		for _, get := range []func() impl.Game{
			func() impl.Game { g, _ := impl.NewGame(v); return g },
			func() impl.Game { g, _, _ := impl.SelfPlay(v, 5, 0); return g },
			func() impl.Game { g, _, _ := impl.SelfPlay(v, 5, 1); return g },
			func() impl.Game { g, _, _ := impl.SelfPlay(v, 5, 2000); return g },
		} {
			want := cloneOf(get())
			g := get()
			spoil(impl.Board{Own: g.Board.Own})
			if !slices.Equal(g.Board.Other, want.Board.Other) {
				t.Errorf("%v: %+v: the sides share memory", v, g)
			}
			spoil(g.Board)
			if again := get(); zeroGame(want) || !sameGame(again, want) {
				t.Errorf("%v: %+v, then %+v", v, want, again)
			}
		}
	}
}

// TestGamesAtTheSameTime plays the same and other games at the same time: nothing may remain from
// one call to another.
func TestGamesAtTheSameTime(t *testing.T) {
	full := impl.FullVariant()
	var wants []stop
	for seed := int64(1); seed <= 20; seed++ {
		g, left, _ := impl.SelfPlay(full, seed, 30)
		wants = append(wants, stop{g, left})
	}
	var all sync.WaitGroup
	for worker := range int64(8) {
		all.Go(func() {
			for i, want := range wants {
				impl.SelfPlay(variant(4, 2, 2, 2), 1+worker, 5)
				g, left, _ := impl.SelfPlay(full, int64(i)+1, 30)
				if !sameGame(g, want.game) || left != want.seed {
					t.Errorf("seed %d: %+v, %d remains", i+1, g, left)
				}
				h, code := impl.ResignGame(full, want.game, 1+worker%3)
				if isOver := want.game.Phase == 3; isOver == (code == impl.ErrNone) || !isOver && h.Result != 1+worker%3 {
					t.Errorf("%+v, code %d", h, code)
				}
			}
		})
	}
	all.Wait()
}
