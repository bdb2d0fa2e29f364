package tests

import (
	"math"
	"math/rand"
	"slices"
	"testing"

	"loop.example/g00885/impl"
)

func roll(a, b int64) impl.Roll { return impl.Roll{A: a, B: b} }

// rollsByRule are the rolls of v, ordered by A, then by B.
func rollsByRule(v impl.Variant) []impl.Roll {
	var rolls []impl.Roll
	for a := int64(1); a <= v.Sides; a++ {
		for b := int64(1); b <= v.Sides; b++ {
			if a >= b {
				rolls = append(rolls, roll(a, b))
			}
		}
	}
	return rolls
}

func ordersByRule(r impl.Roll) [][]int64 {
	if r.A == r.B {
		return [][]int64{list(r.A, r.A, r.A, r.A)}
	}
	return [][]int64{list(r.A, r.B), list(r.B, r.A)}
}

// eachSequence calls f for every sequence for an order of the dice, the one without steps first.
func eachSequence(v impl.Variant, b impl.Board, order []int64, f func(steps []impl.Step, after impl.Board)) {
	var extend func(steps []impl.Step, after impl.Board)
	extend = func(steps []impl.Step, after impl.Board) {
		f(slices.Clone(steps), after)
		if len(steps) == len(order) {
			return
		}
		for _, s := range legalListByRule(v, after, order[len(steps)]) {
			extend(append(slices.Clone(steps), s), afterByRule(v, after, s))
		}
	}
	extend(nil, b)
}

// legalSequences returns all legal sequences of a roll, and the number of dice that are used. No
// sequence is left out because another one leads to the same board.
func legalSequences(v impl.Variant, b impl.Board, r impl.Roll) ([]impl.Play, int) {
	var all []impl.Play
	used, greater := 0, false
	for _, order := range ordersByRule(r) {
		eachSequence(v, b, order, func(steps []impl.Step, after impl.Board) {
			all = append(all, impl.Play{Steps: steps, Board: after})
			used = max(used, len(steps))
			greater = greater || len(steps) == 1 && steps[0].Die == r.A
		})
	}
	legal := slices.DeleteFunc(all, func(p impl.Play) bool {
		return len(p.Steps) != used || used == 1 && greater && p.Steps[0].Die != r.A
	})
	return legal, used
}

// keptByRule lists the sequences of each length that are kept for an order of the dice.
func keptByRule(v impl.Variant, b impl.Board, order []int64) [][]impl.Play {
	kept := [][]impl.Play{{{Board: b}}}
	for _, die := range order {
		var next []impl.Play
		found := map[string]bool{}
		for _, p := range kept[len(kept)-1] {
			for _, s := range legalListByRule(v, p.Board, die) {
				after := afterByRule(v, p.Board, s)
				if place := bitsText(after); !found[place] {
					found[place] = true
					next = append(next, impl.Play{Steps: append(slices.Clone(p.Steps), s), Board: after})
				}
			}
		}
		kept = append(kept, next)
	}
	return kept
}

// playsByRule returns the plays in their order, and the number of dice that are used.
func playsByRule(v impl.Variant, b impl.Board, r impl.Roll) ([]impl.Play, int) {
	var kept [][][]impl.Play
	used := 0
	for _, order := range ordersByRule(r) {
		lists := keptByRule(v, b, order)
		kept = append(kept, lists)
		for length, list := range lists {
			if len(list) > 0 {
				used = max(used, length)
			}
		}
	}
	plays := kept[0][used]
	if len(kept) == 1 || used == 1 && len(plays) > 0 {
		return plays, used
	}
	found := map[string]bool{}
	for _, p := range plays {
		found[bitsText(p.Board)] = true
	}
	for _, p := range kept[1][used] {
		if !found[bitsText(p.Board)] {
			plays = append(plays, p)
		}
	}
	return plays, used
}

func samePlay(p, q impl.Play) bool {
	return slices.Equal(p.Steps, q.Steps) && sameBoard(p.Board, q.Board)
}

func hasPlay(plays []impl.Play, p impl.Play) bool {
	return slices.ContainsFunc(plays, func(q impl.Play) bool { return samePlay(p, q) })
}

// somePlayBoards are large boards, each with a double and another roll.
func somePlayBoards(f func(v impl.Variant, b impl.Board, r impl.Roll)) {
	rnd := rand.New(rand.NewSource(6))
	try := func(v impl.Variant, b impl.Board) {
		double := 1 + rnd.Int63n(v.Sides)
		f(v, b, roll(double, double))
		rolls := rollsByRule(v)
		f(v, b, rolls[rnd.Intn(len(rolls))])
	}
	for i := range 1200 {
		v := impl.FullVariant()
		if i%2 == 0 {
			points := 2 + rnd.Int63n(23)
			v = variant(points, 1+rnd.Int63n(15), 1+rnd.Int63n(points), 1+rnd.Int63n(6))
		}
		if i%3 == 0 {
			try(v, randomBoard(rnd, v))
		} else {
			try(v, stepBoard(rnd, v))
		}
	}
}

// eachPlayBoard calls f for all boards and rolls of the tiny variants, and for some large ones.
func eachPlayBoard(f func(v impl.Variant, b impl.Board, r impl.Roll)) {
	for _, v := range stepVariants() {
		eachBoard(v, func(b impl.Board) {
			for _, r := range rollsByRule(v) {
				f(v, b, r)
			}
		})
	}
	somePlayBoards(f)
}

func checkPlays(t *testing.T, v impl.Variant, b impl.Board, r impl.Roll, want []impl.Play, used int) {
	t.Helper()
	plays, code := impl.AllPlays(v, b, r)
	if code != impl.ErrNone || !slices.EqualFunc(plays, want, samePlay) {
		t.Errorf("%v: %v: plays %v of %v, code %d, not %v", v, b, plays, r, code, want)
	}
	if n, code := impl.DiceUsed(v, b, r); code != impl.ErrNone || n != int64(used) {
		t.Errorf("%v: %v: %v uses %d dice, code %d, not %d", v, b, r, n, code, used)
	}
	if forced, code := impl.IsForced(v, b, r); code != impl.ErrNone || forced != (len(want) == 1) {
		t.Errorf("%v: %v: %v is forced: %v, code %d, with %d plays", v, b, r, forced, code, len(want))
	}
}

func checkSequence(t *testing.T, v impl.Variant, b impl.Board, r impl.Roll, p impl.Play) {
	t.Helper()
	if after, code := impl.PlaySteps(v, b, r, p.Steps); code != impl.ErrNone || !sameBoard(after, p.Board) {
		t.Errorf("%v: %v: %v with %v leads to %v, code %d, not %v", v, b, p.Steps, r, after, code, p.Board)
	}
}

func refuseSequence(t *testing.T, v impl.Variant, b impl.Board, r impl.Roll, steps []impl.Step) {
	t.Helper()
	if after, code := impl.PlaySteps(v, b, r, steps); code != impl.ErrState || !zeroBoard(after) {
		t.Errorf("%v: %v: %v with %v leads to %v, code %d", v, b, steps, r, after, code)
	}
}

func checkFound(t *testing.T, v impl.Variant, b impl.Board, r impl.Roll, after impl.Board, want int) {
	t.Helper()
	i, code := impl.FindPlay(v, b, r, after)
	if want >= 0 && (code != impl.ErrNone || i != int64(want)) {
		t.Errorf("%v: %v: %v: %v is found at %d, code %d, not at %d", v, b, r, after, i, code, want)
	}
	if want < 0 && (code != impl.ErrNotFound || i != 0) {
		t.Errorf("%v: %v: %v: %v is found at %d, code %d", v, b, r, after, i, code)
	}
}

// TestListsOfPlays compares the plays and their order with the definition.
func TestListsOfPlays(t *testing.T) {
	eachPlayBoard(func(v impl.Variant, b impl.Board, r impl.Roll) {
		plays, used := playsByRule(v, b, r)
		checkPlays(t, v, b, r, plays, used)
	})
}

// checkPromise checks that the plays are the legal sequences, one for each board after them. Of many
// sequences only some are played.
func checkPromise(t *testing.T, v impl.Variant, b impl.Board, r impl.Roll) {
	t.Helper()
	legal, used := legalSequences(v, b, r)
	sequences := map[string][]impl.Play{}
	for k, p := range legal {
		place := bitsText(p.Board)
		sequences[place] = append(sequences[place], p)
		if k%(1+len(legal)/10) == 0 {
			checkSequence(t, v, b, r, p)
		}
	}
	plays, code := impl.AllPlays(v, b, r)
	if code != impl.ErrNone || len(plays) != len(sequences) {
		t.Errorf("%v: %v: %d plays of %v for %d boards, code %d", v, b, len(plays), r, len(sequences), code)
	}
	for _, p := range plays {
		place := bitsText(p.Board)
		if !hasPlay(sequences[place], p) || len(p.Steps) != used {
			t.Errorf("%v: %v: %v: wrong play %v", v, b, r, p)
		}
		delete(sequences, place)
	}
	if len(sequences) > 0 {
		t.Errorf("%v: %v: %v: no play for %d boards", v, b, r, len(sequences))
	}
}

// TestEveryLegalPlayIsListedOnce checks promise 5 without any rule about the order of plays.
func TestEveryLegalPlayIsListedOnce(t *testing.T) {
	for _, v := range stepVariants() {
		eachBoard(v, func(b impl.Board) {
			for _, r := range rollsByRule(v) {
				checkPromise(t, v, b, r)
			}
		})
	}
	rnd := rand.New(rand.NewSource(7))
	for range 300 {
		v := impl.FullVariant()
		b := stepBoard(rnd, v)
		for _, r := range rollsByRule(v) {
			if r.A != r.B {
				checkPromise(t, v, b, r)
			}
		}
	}
}

// refuseOthers tries sequences of any dice, of which only those in legal may be accepted.
func refuseOthers(t *testing.T, v impl.Variant, b impl.Board, r impl.Roll, legal []impl.Play) {
	t.Helper()
	eachList(4, 1, v.Sides, func(order []int64) {
		eachSequence(v, b, order, func(steps []impl.Step, after impl.Board) {
			if !hasPlay(legal, impl.Play{Steps: steps, Board: after}) {
				refuseSequence(t, v, b, r, steps)
			}
		})
	})
}

// TestNoOtherSequence has all sequences of legal steps with at most four dice, whatever these are.
func TestNoOtherSequence(t *testing.T) {
	for _, v := range []impl.Variant{variant(2, 2, 1, 2), variant(3, 2, 1, 2), variant(4, 2, 2, 2), variant(2, 1, 1, 3), variant(3, 1, 3, 4)} {
		eachBoard(v, func(b impl.Board) {
			for _, r := range rollsByRule(v) {
				legal, _ := legalSequences(v, b, r)
				refuseOthers(t, v, b, r, legal)
			}
		})
	}
}

// changedSequences has sequences that differ a little from a legal one.
func changedSequences(legal []impl.Step) [][]impl.Step {
	changed := [][]impl.Step{append(slices.Clone(legal), impl.Step{}), append(slices.Clone(legal), legal...)}
	for i, s := range legal {
		without := slices.Delete(slices.Clone(legal), i, i+1)
		changed = append(changed, without, slices.Insert(slices.Clone(legal), i, s))
		for _, near := range steps(step(s.From+1, s.To, s.Die), step(s.From, s.To+1, s.Die), step(s.From, s.To, s.Die+1), step(s.From+1, s.To+1, s.Die), step(s.From, s.To, -s.Die)) {
			other := slices.Clone(legal)
			near.Hit = s.Hit
			other[i] = near
			near.Hit = !s.Hit
			changed = append(changed, other, slices.Replace(slices.Clone(legal), i, i+1, near))
		}
		other := slices.Clone(legal)
		other[i].Hit = !s.Hit
		changed = append(changed, other)
	}
	return changed
}

func TestChangedSequences(t *testing.T) {
	try := func(v impl.Variant, b impl.Board, r impl.Roll) {
		legal, _ := legalSequences(v, b, r)
		for k := 0; k < len(legal); k += 1 + len(legal)/5 {
			for _, steps := range changedSequences(legal[k].Steps) {
				i := slices.IndexFunc(legal, func(p impl.Play) bool { return slices.Equal(p.Steps, steps) })
				if i >= 0 {
					checkSequence(t, v, b, r, legal[i])
				} else {
					refuseSequence(t, v, b, r, steps)
				}
			}
		}
	}
	v := variant(4, 2, 2, 2)
	eachBoard(v, func(b impl.Board) {
		for _, r := range rollsByRule(v) {
			try(v, b, r)
		}
	})
	rnd := rand.New(rand.NewSource(8))
	for range 60 {
		full := impl.FullVariant()
		b := stepBoard(rnd, full)
		try(full, b, roll(6, 1+rnd.Int63n(5)))
		try(full, b, roll(5, 1+rnd.Int63n(4)))
	}
}

// TestSequencesOfDoubles accepts, on large boards, also sequences that are not listed.
func TestSequencesOfDoubles(t *testing.T) {
	rnd := rand.New(rand.NewSource(9))
	full := impl.FullVariant()
	for range 400 {
		b := stepBoard(rnd, full)
		die := 1 + rnd.Int63n(6)
		r := roll(die, die)
		_, used := playsByRule(full, b, r)
		p := impl.Play{Board: b}
		for {
			legal := legalListByRule(full, p.Board, die)
			if len(p.Steps) == used {
				checkSequence(t, full, b, r, p)
			} else {
				refuseSequence(t, full, b, r, p.Steps)
			}
			if len(legal) == 0 || len(p.Steps) > 4 {
				break
			}
			s := legal[rnd.Intn(len(legal))]
			p = impl.Play{Steps: append(slices.Clone(p.Steps), s), Board: afterByRule(full, p.Board, s)}
		}
	}
}

// TestStrangeSequences has steps that are far from every limit.
func TestStrangeSequences(t *testing.T) {
	full := impl.FullVariant()
	start, _ := impl.StartBoard(full)
	for _, r := range []impl.Roll{roll(2, 1), roll(1, 1)} {
		refuseSequence(t, full, start, r, nil)
		refuseSequence(t, full, start, r, make([]impl.Step, 100000))
		for _, s := range strangeSteps() {
			refuseSequence(t, full, start, r, steps(s))
			refuseSequence(t, full, start, r, steps(step(23, 22, 1), s))
			refuseSequence(t, full, start, r, steps(s, step(23, 22, 1)))
			refuseSequence(t, full, start, r, steps(step(23, 22, 1), step(22, 21, 1), step(21, 20, 1), s))
		}
	}
}

func TestFoundPlays(t *testing.T) {
	eachPlayBoard(func(v impl.Variant, b impl.Board, r impl.Roll) {
		plays, _ := playsByRule(v, b, r)
		itself := -1
		for i, p := range plays {
			if i == len(plays)-1 || i%97 == 0 {
				checkFound(t, v, b, r, p.Board, i)
			}
			if sameBoard(p.Board, b) {
				itself = i
			}
		}
		checkFound(t, v, b, r, b, itself)
	})
}

// TestFoundBoards looks for every board of a variant after every other one.
func TestFoundBoards(t *testing.T) {
	v := variant(3, 2, 1, 2)
	var boards []impl.Board
	eachBoard(v, func(b impl.Board) { boards = append(boards, b) })
	for _, b := range boards {
		for _, r := range rollsByRule(v) {
			plays, _ := playsByRule(v, b, r)
			for _, after := range boards {
				checkFound(t, v, b, r, after, slices.IndexFunc(plays, func(p impl.Play) bool { return sameBoard(p.Board, after) }))
			}
		}
	}
}

// TestNoPlayToInvalidBoards has boards that are like the one after a play, but not valid.
func TestNoPlayToInvalidBoards(t *testing.T) {
	v := variant(4, 2, 2, 2)
	b := impl.Board{Own: list(0, 0, 2, 0, 0), Other: list(0, 0, 0, 0, 2)}
	r := roll(2, 1)
	own, other := list(1, 1, 0, 0, 0), list(0, 0, 0, 0, 2)
	checkFound(t, v, b, r, impl.Board{Own: own, Other: other}, 0)
	for _, after := range []impl.Board{
		{}, {Own: own}, {Other: other}, {Own: other, Other: own},
		{Own: own[:4], Other: other}, {Own: own, Other: other[:4]},
		{Own: append(slices.Clone(own), 0), Other: other}, {Own: own, Other: append(slices.Clone(other), 0)},
		{Own: list(1, 1, 0, 0, 256), Other: other}, {Own: list(257, 1, 0, 0, 0), Other: other},
		{Own: list(1, 1, 0, 0, -256), Other: other}, {Own: own, Other: list(0, 0, 0, 0, 1<<32+2)},
		{Own: make([]int64, 100), Other: make([]int64, 100)},
	} {
		checkFound(t, v, b, r, after, -1)
	}
}

func checkCounts(t *testing.T, v impl.Variant, b impl.Board) {
	t.Helper()
	var want []int64
	weight := int64(0)
	for _, r := range rollsByRule(v) {
		plays, used := playsByRule(v, b, r)
		want = append(want, int64(len(plays)))
		if used == 0 && r.A == r.B {
			weight++
		} else if used == 0 {
			weight += 2
		}
	}
	if n, code := impl.PlayCounts(v, b); code != impl.ErrNone || !slices.Equal(n, want) {
		t.Errorf("%v: %v: numbers of plays %v, code %d, not %v", v, b, n, code, want)
	}
	if n, code := impl.DancingWeight(v, b); code != impl.ErrNone || n != weight {
		t.Errorf("%v: %v: dancing weight %d, code %d, not %d", v, b, n, code, weight)
	}
}

func TestNumbersOfPlays(t *testing.T) {
	for _, v := range stepVariants() {
		eachBoard(v, func(b impl.Board) { checkCounts(t, v, b) })
	}
	rnd := rand.New(rand.NewSource(10))
	for range 60 {
		full := impl.FullVariant()
		checkCounts(t, full, stepBoard(rnd, full))
		checkCounts(t, full, randomBoard(rnd, full))
	}
}

// TestDancing closes points of the home of the other player, of the full game.
func TestDancing(t *testing.T) {
	full := impl.FullVariant()
	for closed := range 7 {
		b := impl.Board{Own: filled(25, map[int]int64{24: 1, 12: 3}), Other: filled(25, map[int]int64{24: 1})}
		for i := range closed {
			b.Other[i] = 2
		}
		if n, code := impl.DancingWeight(full, b); code != impl.ErrNone || n != int64(closed*closed) {
			t.Errorf("%d closed points: %d, code %d", closed, n, code)
		}
	}
}

// playCase has the steps of all plays, in order.
type playCase struct {
	v          impl.Variant
	own, other []int64
	r          impl.Roll
	want       [][]impl.Step
}

func checkCase(t *testing.T, c playCase) {
	t.Helper()
	b := impl.Board{Own: c.own, Other: c.other}
	if !impl.IsBoard(c.v, b) {
		t.Fatalf("%v: %v", c.v, b)
	}
	var want []impl.Play
	for _, steps := range c.want {
		p := impl.Play{Steps: steps, Board: b}
		for _, s := range steps {
			p.Board = afterByRule(c.v, p.Board, s)
		}
		want = append(want, p)
		checkSequence(t, c.v, b, c.r, p)
	}
	checkPlays(t, c.v, b, c.r, want, len(c.want[0]))
	for i, p := range want {
		checkFound(t, c.v, b, c.r, p.Board, i)
	}
}

// listed has the steps of plays; none of them is one without steps.
func listed(p ...[]impl.Step) [][]impl.Step { return p }

// TestGreatestUseOfTheDice has the cases that the rules name.
func TestGreatestUseOfTheDice(t *testing.T) {
	v, four, home := variant(4, 2, 2, 2), variant(4, 4, 2, 2), variant(4, 4, 3, 4)
	for _, c := range []playCase{
		// either die, but not both: the greater one
		{v, list(0, 0, 0, 1, 0), list(0, 0, 0, 2, 0), roll(2, 1), listed(steps(step(3, 1, 2)))},
		// only the smaller die
		{four, list(0, 0, 0, 1, 0), list(0, 0, 2, 2, 0), roll(2, 1), listed(steps(step(3, 2, 1)))},
		// both dice, but only the smaller one first
		{v, list(0, 0, 0, 1, 0), list(0, 0, 2, 0, 0), roll(2, 1), listed(steps(step(3, 2, 1), step(2, 0, 2)))},
		// both dice, but only the greater one first
		{v, list(0, 0, 0, 1, 0), list(0, 2, 0, 0, 0), roll(2, 1), listed(steps(step(3, 1, 2), step(1, 0, 1)))},
		// the greater die alone would win, but both can be used
		{v, list(0, 1, 0, 0, 0), list(1, 0, 0, 0, 0), roll(2, 1), listed(steps(step(1, 0, 1), step(0, -1, 2)))},
		// each die alone wins
		{v, list(1, 0, 0, 0, 0), list(1, 0, 0, 0, 0), roll(2, 1), listed(steps(step(0, -1, 2)))},
		// neither die
		{four, list(0, 0, 0, 1, 0), list(0, 2, 2, 0, 0), roll(2, 1), listed(nil)},
		{v, list(0, 1, 0, 0, 1), list(2, 0, 0, 0, 0), roll(1, 1), listed(nil)},
		// doubles: one, two, three and four steps
		{v, list(0, 0, 0, 1, 0), list(0, 0, 2, 0, 0), roll(1, 1), listed(steps(step(3, 2, 1)))},
		{v, list(0, 0, 0, 1, 0), list(0, 0, 0, 2, 0), roll(1, 1), listed(steps(step(3, 2, 1), step(2, 1, 1)))},
		{v, list(0, 0, 1, 0, 0), list(1, 0, 0, 0, 0), roll(1, 1), listed(steps(step(2, 1, 1), step(1, 0, 1), step(0, -1, 1)))},
		{v, list(0, 0, 0, 1, 0), list(0, 0, 0, 0, 1), roll(1, 1), listed(steps(step(3, 2, 1), step(2, 1, 1), step(1, 0, 1), step(0, -1, 1)))},
		{v, list(0, 0, 0, 0, 1), list(0, 0, 0, 0, 1), roll(1, 1), listed(steps(step(4, 3, 1), step(3, 2, 1), step(2, 1, 1), step(1, 0, 1)))},
		// a double that is greater than needed
		{home, list(2, 0, 0, 0, 0), list(1, 0, 0, 0, 0), roll(4, 4), listed(steps(step(0, -1, 4), step(0, -1, 4)))},
		// a double that stops with the first checker and goes on with the second
		{v, list(0, 1, 0, 0, 1), list(0, 2, 0, 0, 0), roll(1, 1), listed(steps(step(4, 3, 1), step(1, 0, 1)))},
		// over
		{v, list(0, 0, 0, 0, 0), list(1, 0, 0, 0, 0), roll(2, 1), listed(nil)},
		{v, list(0, 2, 0, 0, 0), list(0, 0, 0, 0, 0), roll(2, 2), listed(nil)},
	} {
		checkCase(t, c)
	}
}

func TestPlaysFromTheBar(t *testing.T) {
	v, home := variant(4, 2, 2, 2), variant(4, 4, 3, 4)
	for _, c := range []playCase{
		// two checkers on the bar, of which one can enter
		{v, list(0, 0, 0, 0, 2), list(2, 0, 0, 0, 0), roll(2, 1), listed(steps(step(4, 2, 2)))},
		{v, list(0, 0, 0, 0, 2), list(0, 2, 0, 0, 0), roll(2, 1), listed(steps(step(4, 3, 1)))},
		// one enters with the smaller die, and then the greater one is used
		{v, list(0, 1, 0, 0, 1), list(0, 2, 0, 0, 0), roll(2, 1), listed(steps(step(4, 3, 1), step(3, 1, 2)))},
		// both dice enter
		{v, list(0, 0, 0, 0, 2), list(0, 0, 0, 0, 2), roll(2, 1), listed(steps(step(4, 2, 2), step(4, 3, 1)))},
		// entering hits on one of two ways to the same point
		{v, list(0, 0, 0, 0, 1), list(1, 0, 0, 0, 1), roll(2, 1), listed(steps(step(4, 2, 2), step(2, 1, 1)), steps(hit(4, 3, 1), step(3, 1, 2)))},
		// a checker is borne off as soon as the last one has entered, and not before
		{home, list(0, 0, 1, 0, 1), list(0, 0, 0, 0, 1), roll(4, 3), listed(steps(step(4, 0, 4), step(2, -1, 3)), steps(step(4, 1, 3), step(2, -1, 4)))},
		{home, list(0, 0, 1, 0, 1), list(2, 0, 2, 0, 0), roll(3, 1), listed(nil)},
	} {
		checkCase(t, c)
	}
}

// TestOrderOfPlays has boards to which more than one sequence leads.
func TestOrderOfPlays(t *testing.T) {
	v, six := variant(4, 2, 2, 2), variant(6, 2, 2, 2)
	for _, c := range []playCase{
		{v, list(0, 1, 0, 1, 0), list(0, 1, 0, 1, 0), roll(2, 1), listed(steps(step(3, 1, 2), hit(1, 0, 1)), steps(hit(3, 2, 1), hit(2, 0, 2)))},
		// every board of the second order is one of the first order
		{six, list(0, 0, 0, 0, 1, 1, 0), list(0, 0, 0, 0, 0, 0, 1), roll(2, 1), listed(steps(step(5, 3, 2), step(4, 3, 1)), steps(step(5, 3, 2), step(3, 2, 1)), steps(step(4, 2, 2), step(2, 1, 1)))},
		// the first steps of the second order differ by a hit only
		{six, list(0, 0, 0, 0, 0, 1, 0), list(0, 1, 0, 0, 0, 0, 0), roll(2, 1), listed(steps(step(5, 3, 2), step(3, 2, 1)), steps(hit(5, 4, 1), step(4, 2, 2)))},
		{six, list(0, 0, 0, 0, 0, 1, 0), list(0, 0, 1, 0, 0, 0, 0), roll(2, 1), listed(steps(hit(5, 3, 2), step(3, 2, 1)), steps(step(5, 4, 1), step(4, 2, 2)))},
		// a double: of the checkers the farthest moves first
		{six, list(0, 0, 0, 0, 1, 1, 0), list(0, 0, 0, 0, 0, 0, 1), roll(1, 1), listed(
			steps(step(5, 4, 1), step(4, 3, 1), step(4, 3, 1), step(3, 2, 1)),
			steps(step(5, 4, 1), step(4, 3, 1), step(3, 2, 1), step(2, 1, 1)),
			steps(step(4, 3, 1), step(3, 2, 1), step(2, 1, 1), step(1, 0, 1)))},
	} {
		checkCase(t, c)
	}
	b := impl.Board{Own: list(0, 0, 0, 0, 1, 1, 0), Other: list(0, 0, 0, 0, 0, 0, 1)}
	for _, c := range []struct {
		steps []impl.Step
		own   []int64
	}{
		{steps(step(4, 2, 2), step(5, 4, 1)), list(0, 0, 1, 0, 1, 0, 0)},
		{steps(step(5, 4, 1), step(4, 2, 2)), list(0, 0, 1, 0, 1, 0, 0)},
		{steps(step(4, 3, 1), step(5, 3, 2)), list(0, 0, 0, 2, 0, 0, 0)},
		{steps(step(4, 3, 1), step(3, 1, 2)), list(0, 1, 0, 0, 0, 1, 0)},
	} {
		checkSequence(t, six, b, roll(2, 1), impl.Play{Steps: c.steps, Board: impl.Board{Own: c.own, Other: b.Other}}) // not listed
	}
}

// TestFirstPlaysOfTheFullGame has the numbers of plays in the order of the rolls.
func TestFirstPlaysOfTheFullGame(t *testing.T) {
	full := impl.FullVariant()
	b, _ := impl.StartBoard(full)
	checkCounts(t, full, b)
	want := list(42, 15, 75, 16, 17, 73, 14, 18, 17, 52, 8, 8, 9, 9, 4, 10, 14, 14, 14, 7, 11)
	if n, code := impl.PlayCounts(full, b); code != impl.ErrNone || !slices.Equal(n, want) {
		t.Error(n, code)
	}
	for _, r := range rollsByRule(full) {
		plays, used := playsByRule(full, b, r)
		checkPlays(t, full, b, r, plays, used)
	}
}

// TestCrowdedBoards has boards with nearly as many plays as there can be. Fifteen checkers share
// four steps in 3060 ways, but some two of them are one or no step apart, so that at least 106 of
// these lead to the same board as another one: ErrLimit is returned for no valid board.
func TestCrowdedBoards(t *testing.T) {
	for _, c := range []struct {
		v    impl.Variant
		own  []int64
		want int
	}{
		{variant(24, 15, 6, 6), list(0, 0, 1, 1, 0, 1, 0, 1, 1, 0, 1, 1, 0, 1, 1, 0, 1, 0, 1, 1, 1, 0, 1, 1, 0), 2225},
		{variant(24, 15, 24, 6), list(0, 1, 1, 0, 1, 1, 0, 1, 0, 1, 1, 0, 1, 0, 1, 1, 0, 1, 1, 0, 1, 1, 0, 1, 0), 2312},
	} {
		b := impl.Board{Own: c.own, Other: filled(25, map[int]int64{24: 1})}
		plays, used := playsByRule(c.v, b, roll(1, 1))
		checkPlays(t, c.v, b, roll(1, 1), plays, used)
		if len(plays) != c.want || c.want > impl.MaxPlays {
			t.Errorf("%v: %d plays, not %d", c.v, len(plays), c.want)
		}
		if n, code := impl.PlayCounts(c.v, b); code != impl.ErrNone || n[0] != int64(c.want) {
			t.Error(n, code)
		}
	}
	if impl.MaxPlays != 3000 {
		t.Error(impl.MaxPlays)
	}
}

// refusePlays checks what the functions with a roll return beside a code.
func refusePlays(t *testing.T, v impl.Variant, b impl.Board, r impl.Roll, want int64) {
	t.Helper()
	if n, code := impl.DiceUsed(v, b, r); code != want || n != 0 {
		t.Errorf("%v: %v: %v uses %d dice, code %d, not %d", v, b, r, n, code, want)
	}
	if plays, code := impl.AllPlays(v, b, r); code != want || len(plays) != 0 {
		t.Errorf("%v: %v: %d plays of %v, code %d, not %d", v, b, len(plays), r, code, want)
	}
	if forced, code := impl.IsForced(v, b, r); code != want || forced {
		t.Errorf("%v: %v: %v is forced: %v, code %d, not %d", v, b, r, forced, code, want)
	}
	for _, s := range [][]impl.Step{nil, steps(step(0, -1, 1)), steps(step(23, 22, 1), step(23, 21, 2)), strangeSteps()} {
		if after, code := impl.PlaySteps(v, b, r, s); code != want || !zeroBoard(after) {
			t.Errorf("%v: %v: %v with %v leads to %v, code %d, not %d", v, b, s, r, after, code, want)
		}
	}
	for _, after := range []impl.Board{{}, b} {
		if i, code := impl.FindPlay(v, b, r, after); code != want || i != 0 {
			t.Errorf("%v: %v: %v: %v is found at %d, code %d, not %d", v, b, r, after, i, code, want)
		}
	}
}

// strangeRolls are rolls of no variant with that number of sides.
func strangeRolls(sides int64) []impl.Roll {
	const least, most = math.MinInt64, math.MaxInt64
	rolls := []impl.Roll{
		{}, roll(1, 0), roll(0, 1), roll(0, 0), roll(1, -1), roll(-1, -1), roll(-1, 1), roll(sides, 0), roll(sides, -sides),
		roll(sides+1, 1), roll(sides+1, sides), roll(sides+1, sides+1), roll(1, sides+1), roll(7, 7), roll(1<<32+1, 1), roll(1<<32+1, 1<<32+1),
		roll(most, 1), roll(most, most), roll(1, least), roll(least, least), roll(least, most), roll(most, least),
	}
	for a := int64(1); a <= sides; a++ {
		for b := a + 1; b <= sides; b++ {
			rolls = append(rolls, roll(a, b))
		}
	}
	return rolls
}

func TestPlaysOfNoRoll(t *testing.T) {
	for _, v := range append(stepVariants(), impl.FullVariant()) {
		size := int(v.Points) + 1
		one := filled(size, map[int]int64{0: 1})
		for _, r := range strangeRolls(v.Sides) {
			refusePlays(t, v, impl.Board{Own: one, Other: one}, r, impl.ErrRange)
			refusePlays(t, v, impl.Board{Own: one, Other: make([]int64, size)}, r, impl.ErrRange)
		}
	}
}

// refuseCounting checks what all functions return if v or b is not valid, whatever the roll is.
func refuseCounting(t *testing.T, v impl.Variant, b impl.Board) {
	t.Helper()
	for _, r := range []impl.Roll{{}, roll(1, 1), roll(2, 1), roll(1, 2), roll(6, 6), roll(7, 7), roll(math.MaxInt64, math.MinInt64)} {
		refusePlays(t, v, b, r, impl.ErrInvalid)
	}
	if n, code := impl.PlayCounts(v, b); code != impl.ErrInvalid || len(n) != 0 {
		t.Errorf("%v: %v: numbers of plays %v, code %d", v, b, n, code)
	}
	if n, code := impl.DancingWeight(v, b); code != impl.ErrInvalid || n != 0 {
		t.Errorf("%v: %v: dancing weight %d, code %d", v, b, n, code)
	}
}

func TestPlaysOfInvalidBoards(t *testing.T) {
	for _, b := range invalidBoards() {
		refuseCounting(t, impl.FullVariant(), b)
	}
	for _, v := range invalidVariants() {
		refuseCounting(t, v, impl.Board{})
		for _, size := range []int{1, 2, 3, 25, 26} {
			refuseCounting(t, v, impl.Board{Own: filled(size, map[int]int64{0: 1}), Other: filled(size, map[int]int64{0: 1})})
		}
	}
	b := impl.Board{Own: list(2, 0, 0, 0, 0), Other: list(2, 0, 0, 0, 0)}
	refuseCounting(t, variant(3, 2, 2, 2), b)
	refuseCounting(t, variant(5, 2, 2, 2), b)
	refuseCounting(t, variant(4, 1, 2, 2), b)
	refuseCounting(t, variant(2, 2, 1, 2), impl.Board{Own: list(0, 1, 0), Other: list(1, 0, 0)})
}

// spoil changes a board and what may lie behind it.
func spoil(b impl.Board) {
	for _, side := range [][]int64{b.Own, b.Other} {
		for i := range side {
			side[i] = 99
		}
		_ = append(side, 55, 55, 55, 55, 55, 55)
	}
}

// TestPlaysAreNew changes every play that is returned, and then looks at the ones after it.
func TestPlaysAreNew(t *testing.T) {
	v := variant(4, 2, 2, 2)
	memory := list(0, 1, 0, 1, 0, 77, 88, 66, 55, 44, 33, 22)
	before := slices.Clone(memory)
	stuck := list(0, 0, 0, 0, 2, 11)
	boards := []impl.Board{
		{Own: memory[:5], Other: memory[:5]},
		{Own: stuck[:5], Other: list(2, 2, 0, 0, 0)[:5]},
		{Own: make([]int64, 5, 9), Other: stuck[:5]},
	}
	wide := variant(4, 4, 2, 2)
	for range 2 { // nothing is kept from the first time
		for _, b := range boards {
			for _, r := range rollsByRule(v) {
				want, _ := playsByRule(wide, b, r)
				plays, code := impl.AllPlays(wide, b, r)
				if code != impl.ErrNone || len(plays) != len(want) {
					t.Fatal(plays, code)
				}
				for i, p := range plays {
					if !samePlay(p, want[i]) {
						t.Errorf("%v: %v: play %d is %v, not %v", b, r, i, p, want[i])
					}
					own := slices.Clone(p.Board.Own)
					spoil(impl.Board{Other: p.Board.Other})
					if !slices.Equal(own, p.Board.Own) {
						t.Errorf("%v: %v: the sides share memory", b, r)
					}
					spoil(p.Board)
					clear(p.Steps)
					_ = append(p.Steps, impl.Step{}, impl.Step{}, impl.Step{})
				}
			}
		}
		if !slices.Equal(memory, before) || !slices.Equal(stuck, list(0, 0, 0, 0, 2, 11)) {
			t.Fatal(memory, stuck)
		}
	}
}

// TestBoardsAfterPlaysAreNew has plays with and without steps, one list as both sides, and memory
// behind it.
func TestBoardsAfterPlaysAreNew(t *testing.T) {
	v := variant(4, 2, 2, 2)
	memory := list(0, 1, 0, 1, 0, 77, 88, 66)
	before := slices.Clone(memory)
	b := impl.Board{Own: memory[:5], Other: memory[:5]}
	over := impl.Board{Own: make([]int64, 5, 9), Other: memory[:5]}
	way := steps(step(3, 1, 2), hit(1, 0, 1), step(9, 9, 9))
	for range 2 {
		after, code := impl.PlaySteps(v, b, roll(2, 1), way[:2])
		if code != impl.ErrNone || !slices.Equal(after.Own, list(1, 1, 0, 0, 0)) || !slices.Equal(after.Other, list(0, 1, 0, 0, 1)) {
			t.Fatal(after, code)
		}
		checkFound(t, v, b, roll(2, 1), after, 0)
		spoil(after)
		after, code = impl.PlaySteps(v, over, roll(2, 1), nil)
		if code != impl.ErrNone || !sameBoard(after, over) {
			t.Fatal(after, code)
		}
		spoil(after)
		n, code := impl.PlayCounts(v, b)
		if code != impl.ErrNone || len(n) != 3 || n[1] != 2 {
			t.Fatal(n, code)
		}
		clear(n)
		if !slices.Equal(memory, before) || sumOf(over.Own) != 0 || sumOf(over.Own[:9]) != 0 {
			t.Fatal(memory, over)
		}
		if !slices.Equal(way, steps(step(3, 1, 2), hit(1, 0, 1), step(9, 9, 9))) {
			t.Fatal(way)
		}
	}
}
