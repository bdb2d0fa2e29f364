package tests

import (
	"math"
	"math/rand"
	"slices"
	"testing"

	"loop.example/g00885/impl"
)

// stepVariants are variants of which all boards and steps can be tried. Some have dice that reach
// farther than the bar, and some have every point at home.
func stepVariants() []impl.Variant {
	return []impl.Variant{
		variant(2, 1, 1, 1), variant(2, 2, 2, 6), variant(2, 3, 1, 2), variant(3, 2, 1, 3), variant(3, 3, 3, 4),
		variant(4, 2, 2, 2), variant(4, 2, 4, 6), variant(4, 3, 3, 3), variant(5, 2, 2, 3),
	}
}

func step(from, to, die int64) impl.Step { return impl.Step{From: from, To: to, Die: die} }

func hit(from, to, die int64) impl.Step { return impl.Step{From: from, To: to, Die: die, Hit: true} }

func steps(s ...impl.Step) []impl.Step { return s }

// legalByRule follows the definition of legal steps.
func legalByRule(v impl.Variant, b impl.Board, s impl.Step) bool {
	own, other := placesOf(b.Own), placesOf(b.Other)
	if s.Die < 1 || s.Die > v.Sides || len(own) == 0 || len(other) == 0 || !slices.Contains(own, s.From) {
		return false
	}
	if slices.Contains(own, v.Points) && s.From != v.Points {
		return false
	}
	if s.To == -1 {
		if s.Hit || slices.Max(own) >= v.Home {
			return false
		}
		return s.From == s.Die-1 || s.From < s.Die-1 && slices.Max(own) == s.From
	}
	if s.To < 0 || s.To != s.From-s.Die {
		return false
	}
	facing := b.Other[v.Points-1-s.To]
	return facing <= 1 && s.Hit == (facing == 1)
}

// legalListByRule tries every place, the greatest first.
func legalListByRule(v impl.Variant, b impl.Board, die int64) []impl.Step {
	var list []impl.Step
	for from := v.Points; from >= 0; from-- {
		for _, s := range steps(step(from, -1, die), hit(from, -1, die), step(from, from-die, die), hit(from, from-die, die)) {
			if legalByRule(v, b, s) && !slices.Contains(list, s) {
				list = append(list, s)
			}
		}
	}
	return list
}

// afterByRule expects a legal step.
func afterByRule(v impl.Variant, b impl.Board, s impl.Step) impl.Board {
	after := impl.Board{Own: slices.Clone(b.Own), Other: slices.Clone(b.Other)}
	after.Own[s.From]--
	if s.To >= 0 {
		after.Own[s.To]++
	}
	if s.Hit {
		after.Other[v.Points-1-s.To] = 0
		after.Other[v.Points]++
	}
	return after
}

// eachStep calls f for every step that is at most a little beyond the limits of v.
func eachStep(v impl.Variant, f func(s impl.Step)) {
	for from := int64(-2); from <= v.Points+2; from++ {
		for to := int64(-3); to <= v.Points+1; to++ {
			for die := int64(-1); die <= v.Sides+2; die++ {
				f(step(from, to, die))
				f(hit(from, to, die))
			}
		}
	}
}

// strangeSteps are far from every limit, or are steps only if numbers wrap around.
func strangeSteps() []impl.Step {
	const least, most = math.MinInt64, math.MaxInt64
	return steps(
		impl.Step{}, step(least, most, 1), hit(least, most, 1), step(least, least, least), step(most, most, most),
		step(least, -1, 1), step(most, -1, 1), step(1, -1, most), step(1, -1, least), step(least, 0, least),
		step(most, 0, most), step(0, least, most), hit(0, least, most), step(0, most, least), step(23, most, 1),
		hit(23, least, 1), step(1<<32+23, 22, 1), step(23, 1<<32+22, 1), step(23, 22, 1<<32+1),
		step(1<<32+23, 1<<32+22, 1), step(24, 0, 24), step(24, -1, 25), step(25, 24, 1), step(24, 24, 0), step(-1, -1, 0),
	)
}

// stepBoard places the checkers of each player at home, on points, or also on the bar.
func stepBoard(r *rand.Rand, v impl.Variant) impl.Board {
	b := impl.Board{Own: make([]int64, v.Points+1), Other: make([]int64, v.Points+1)}
	limits := list(v.Home, v.Points, v.Points+1)
	limit := limits[r.Intn(3)]
	for range 1 + r.Int63n(v.Checkers) {
		b.Own[r.Int63n(limit)]++
	}
	limit = limits[r.Intn(3)]
	for range r.Int63n(v.Checkers + 1) {
		k := r.Int63n(limit)
		if k == v.Points || b.Own[v.Points-1-k] == 0 {
			b.Other[k]++
		}
	}
	return b
}

// eachStepBoard calls f for all boards of the tiny variants, and for random ones of others.
func eachStepBoard(f func(v impl.Variant, b impl.Board)) {
	for _, v := range stepVariants() {
		eachBoard(v, func(b impl.Board) { f(v, b) })
	}
	r := rand.New(rand.NewSource(4))
	for i := range 6000 {
		v := impl.FullVariant()
		if i%2 == 0 {
			points := 2 + r.Int63n(23)
			v = variant(points, 1+r.Int63n(15), 1+r.Int63n(points), 1+r.Int63n(6))
		}
		f(v, stepBoard(r, v))
	}
	eachRandomBoard(f)
}

func checkSteps(t *testing.T, v impl.Variant, b impl.Board, die int64, want []impl.Step) {
	t.Helper()
	if list, code := impl.LegalSteps(v, b, die); code != impl.ErrNone || !slices.Equal(list, want) {
		t.Errorf("%v: %v: steps %v with %d, code %d, not %v", v, b, list, die, code, want)
	}
	hits := slices.DeleteFunc(slices.Clone(want), func(s impl.Step) bool { return !s.Hit })
	if list, code := impl.HitSteps(v, b, die); code != impl.ErrNone || !slices.Equal(list, hits) {
		t.Errorf("%v: %v: hits %v with %d, code %d, not %v", v, b, list, die, code, hits)
	}
}

func TestListsOfSteps(t *testing.T) {
	eachStepBoard(func(v impl.Variant, b impl.Board) {
		for die := int64(1); die <= v.Sides; die++ {
			checkSteps(t, v, b, die, legalListByRule(v, b, die))
		}
	})
}

func checkStep(t *testing.T, v impl.Variant, b impl.Board, s impl.Step, legal bool) {
	t.Helper()
	after, code := impl.ApplyStep(v, b, s)
	if impl.IsLegalStep(v, b, s) != legal {
		t.Errorf("%v: %v: %v: legal is not %v", v, b, s, legal)
	}
	if !legal && (code != impl.ErrState || !zeroBoard(after)) {
		t.Errorf("%v: %v: %v leads to %v, code %d", v, b, s, after, code)
	}
	if legal && (code != impl.ErrNone || !sameBoard(after, afterByRule(v, b, s))) {
		t.Errorf("%v: %v: %v leads to %v, code %d", v, b, s, after, code)
	}
}

// TestLegalStepsAreListed checks the second part of promise 4: a step is legal if it is listed.
func TestLegalStepsAreListed(t *testing.T) {
	for _, v := range stepVariants() {
		eachBoard(v, func(b impl.Board) {
			var listed []impl.Step
			for die := int64(1); die <= v.Sides; die++ {
				list, _ := impl.LegalSteps(v, b, die)
				listed = append(listed, list...)
			}
			eachStep(v, func(s impl.Step) {
				legal := legalByRule(v, b, s)
				if slices.Contains(listed, s) != legal {
					t.Errorf("%v: %v: %v listed is not %v", v, b, s, legal)
				}
				checkStep(t, v, b, s, legal)
			})
		})
	}
}

// TestStepsOfLargeBoards changes single fields of legal steps.
func TestStepsOfLargeBoards(t *testing.T) {
	r := rand.New(rand.NewSource(5))
	eachStepBoard(func(v impl.Variant, b impl.Board) {
		for _, s := range legalListByRule(v, b, 1+r.Int63n(v.Sides)) {
			checkStep(t, v, b, s, true)
			for _, n := range list(-1, 1, r.Int63n(7)-3) {
				for _, near := range steps(step(s.From+n, s.To, s.Die), step(s.From, s.To+n, s.Die), step(s.From, s.To, s.Die+n), step(s.From+n, s.To+n, s.Die)) {
					checkStep(t, v, b, near, legalByRule(v, b, near))
					near.Hit = true
					checkStep(t, v, b, near, legalByRule(v, b, near))
				}
			}
		}
	})
}

// TestStepsAreUndone checks the first part of promise 4, and the guarantee about pips.
func TestStepsAreUndone(t *testing.T) {
	eachStepBoard(func(v impl.Variant, b impl.Board) {
		own, other := impl.PipCounts(v, b)
		for die := int64(1); die <= v.Sides; die++ {
			list, _ := impl.LegalSteps(v, b, die)
			for _, s := range list {
				after, code := impl.ApplyStep(v, b, s)
				if code != impl.ErrNone || !impl.IsBoard(v, after) {
					t.Fatalf("%v: %v: %v leads to %v, code %d", v, b, s, after, code)
				}
				if back, code := impl.UndoStep(v, after, s); code != impl.ErrNone || !sameBoard(back, b) {
					t.Errorf("%v: %v: %v undone leads to %v, code %d", v, b, s, back, code)
				}
				ownAfter, otherAfter := impl.PipCounts(v, after)
				if lost := own - ownAfter; lost < 1 || lost > die || (s.To >= 0 && lost != die) {
					t.Errorf("%v: %v: %v takes %d pips", v, b, s, lost)
				}
				if (otherAfter > other) != s.Hit {
					t.Errorf("%v: %v: %v gives the other player %d pips", v, b, s, otherAfter-other)
				}
			}
		}
	})
}

// origin is a board, by its bits, and the step that leads to it.
type origin struct {
	after string
	s     impl.Step
}

// TestEveryUndoneStep undoes all steps on all boards, also those that cannot have led there.
func TestEveryUndoneStep(t *testing.T) {
	for _, v := range stepVariants() {
		origins := map[origin]impl.Board{}
		eachBoard(v, func(b impl.Board) {
			for die := int64(1); die <= v.Sides; die++ {
				for _, s := range legalListByRule(v, b, die) {
					origins[origin{bitsText(afterByRule(v, b, s)), s}] = b
				}
			}
		})
		eachBoard(v, func(b impl.Board) {
			bits := bitsText(b)
			eachStep(v, func(s impl.Step) {
				back, code := impl.UndoStep(v, b, s)
				want, found := origins[origin{bits, s}]
				if found && (code != impl.ErrNone || !sameBoard(back, want)) {
					t.Errorf("%v: %v: %v undone leads to %v, code %d, not %v", v, b, s, back, code, want)
				}
				if !found && (code != impl.ErrNotFound || !zeroBoard(back)) {
					t.Errorf("%v: %v: %v undone leads to %v, code %d", v, b, s, back, code)
				}
			})
		})
	}
}

func refuseUndo(t *testing.T, v impl.Variant, b impl.Board, s impl.Step) {
	t.Helper()
	if back, code := impl.UndoStep(v, b, s); code != impl.ErrNotFound || !zeroBoard(back) {
		t.Errorf("%v: %v: %v undone leads to %v, code %d", v, b, s, back, code)
	}
}

func TestStrangeSteps(t *testing.T) {
	full := impl.FullVariant()
	start, _ := impl.StartBoard(full)
	bars := impl.Board{Own: filled(25, map[int]int64{5: 1, 24: 2}), Other: filled(25, map[int]int64{5: 1, 24: 2})}
	home := impl.Board{Own: filled(25, map[int]int64{0: 1, 1: 1}), Other: filled(25, map[int]int64{0: 1, 24: 1})}
	for _, b := range []impl.Board{start, bars, home} {
		for _, s := range strangeSteps() {
			checkStep(t, full, b, s, false)
			refuseUndo(t, full, b, s)
		}
	}
}

func TestStepsOfTheFullGame(t *testing.T) {
	full := impl.FullVariant()
	b, _ := impl.StartBoard(full)
	checkSteps(t, full, b, 1, steps(step(23, 22, 1), step(7, 6, 1), step(5, 4, 1)))
	checkSteps(t, full, b, 2, steps(step(23, 21, 2), step(12, 10, 2), step(7, 5, 2), step(5, 3, 2)))
	checkSteps(t, full, b, 3, steps(step(23, 20, 3), step(12, 9, 3), step(7, 4, 3), step(5, 2, 3)))
	checkSteps(t, full, b, 4, steps(step(23, 19, 4), step(12, 8, 4), step(7, 3, 4), step(5, 1, 4)))
	checkSteps(t, full, b, 5, steps(step(12, 7, 5), step(7, 2, 5)))
	checkSteps(t, full, b, 6, steps(step(23, 17, 6), step(12, 6, 6), step(7, 1, 6)))
}

// TestExamplesOfSteps has the cases that the rules name.
func TestExamplesOfSteps(t *testing.T) {
	v, large := variant(4, 2, 2, 2), variant(4, 3, 3, 6)
	for _, c := range []struct {
		v          impl.Variant
		own, other []int64
		die        int64
		want       []impl.Step
	}{
		{v, list(0, 1, 0, 1, 0), list(0, 1, 0, 1, 0), 1, steps(hit(3, 2, 1), hit(1, 0, 1))},
		{v, list(0, 1, 0, 1, 0), list(0, 1, 0, 1, 0), 2, steps(step(3, 1, 2))},                 // onto an own checker; none is borne off before all are home
		{v, list(1, 0, 0, 0, 1), list(2, 0, 0, 0, 0), 1, nil},                                  // the point of entry is closed
		{v, list(1, 0, 0, 0, 1), list(2, 0, 0, 0, 0), 2, steps(step(4, 2, 2))},                 // only the bar
		{v, list(0, 0, 0, 0, 2), list(1, 0, 0, 0, 1), 1, steps(hit(4, 3, 1))},                  // entering hits
		{v, list(0, 0, 0, 0, 1), list(1, 0, 0, 0, 1), 2, steps(step(4, 2, 2))},                 // the other bar is no point
		{v, list(1, 1, 0, 0, 0), list(1, 0, 0, 0, 0), 1, steps(step(1, 0, 1), step(0, -1, 1))}, // moving or bearing off
		{v, list(1, 1, 0, 0, 0), list(1, 0, 0, 0, 0), 2, steps(step(1, -1, 2))},                // not from the smaller point
		{v, list(2, 0, 0, 0, 0), list(1, 0, 0, 0, 0), 2, steps(step(0, -1, 2))},                // the die is greater than needed
		{v, list(1, 0, 1, 0, 0), list(1, 0, 0, 0, 0), 1, steps(step(2, 1, 1))},                 // the point Home is not at home
		{v, list(1, 0, 1, 0, 0), list(1, 0, 0, 0, 0), 2, steps(step(2, 0, 2))},
		{v, list(0, 2, 0, 0, 0), list(0, 0, 0, 2, 0), 1, nil}, // closed
		{v, list(0, 2, 0, 0, 0), list(0, 0, 0, 2, 0), 2, steps(step(1, -1, 2))},
		{v, list(0, 0, 0, 0, 0), list(1, 0, 0, 0, 0), 1, nil}, // over
		{v, list(1, 0, 0, 0, 0), list(0, 0, 0, 0, 0), 1, nil},
		{v, list(0, 0, 0, 1, 1), list(0, 0, 0, 0, 0), 2, nil},
		{large, list(0, 1, 1, 0, 0), list(0, 0, 0, 0, 1), 2, steps(step(2, 0, 2), step(1, -1, 2))},
		{large, list(0, 1, 1, 0, 0), list(0, 0, 0, 0, 1), 3, steps(step(2, -1, 3))},
		{large, list(0, 1, 1, 0, 0), list(0, 0, 0, 0, 1), 6, steps(step(2, -1, 6))},
		{large, list(2, 1, 0, 0, 0), list(0, 0, 0, 0, 1), 6, steps(step(1, -1, 6))},
		{large, list(1, 0, 0, 1, 0), list(0, 0, 0, 0, 1), 4, nil}, // 3 is not at home
		{large, list(1, 0, 0, 0, 1), list(0, 1, 0, 0, 0), 4, steps(step(4, 0, 4))},
		{large, list(1, 0, 0, 0, 1), list(0, 1, 0, 0, 0), 5, nil}, // not off from the bar
		{large, list(0, 0, 0, 0, 1), list(0, 1, 0, 1, 0), 4, steps(hit(4, 0, 4))},
		{variant(4, 2, 4, 6), list(0, 0, 0, 2, 0), list(0, 0, 0, 0, 1), 4, steps(step(3, -1, 4))}, // every point is at home
		{variant(4, 2, 4, 6), list(0, 0, 0, 1, 1), list(0, 0, 0, 0, 1), 4, steps(step(4, 0, 4))},  // but not the bar
		{variant(4, 2, 4, 6), list(0, 0, 0, 0, 2), list(0, 0, 0, 0, 1), 5, nil},
		{variant(2, 1, 1, 6), list(0, 1, 0), list(0, 1, 0), 6, nil},
	} {
		b := impl.Board{Own: c.own, Other: c.other}
		if !impl.IsBoard(c.v, b) {
			t.Fatalf("%v: %v", c.v, b)
		}
		checkSteps(t, c.v, b, c.die, c.want)
		for from := range c.v.Points + 1 {
			for _, s := range steps(step(from, from-c.die, c.die), hit(from, from-c.die, c.die), step(from, -1, c.die), hit(from, -1, c.die)) {
				checkStep(t, c.v, b, s, slices.Contains(c.want, s))
			}
		}
	}
}

func TestBoardsAfterSteps(t *testing.T) {
	v := variant(4, 2, 2, 2)
	for _, c := range []struct {
		own, other, ownAfter, otherAfter []int64
		s                                impl.Step
	}{
		{list(0, 1, 0, 1, 0), list(0, 1, 0, 1, 0), list(0, 1, 1, 0, 0), list(0, 0, 0, 1, 1), hit(3, 2, 1)},
		{list(0, 1, 0, 1, 0), list(0, 1, 0, 1, 0), list(1, 0, 0, 1, 0), list(0, 1, 0, 0, 1), hit(1, 0, 1)},
		{list(0, 1, 0, 1, 0), list(0, 1, 0, 1, 0), list(0, 2, 0, 0, 0), list(0, 1, 0, 1, 0), step(3, 1, 2)},
		{list(0, 0, 0, 0, 2), list(1, 0, 0, 0, 1), list(0, 0, 0, 1, 1), list(0, 0, 0, 0, 2), hit(4, 3, 1)},
		{list(0, 0, 0, 0, 2), list(1, 0, 0, 0, 1), list(0, 0, 1, 0, 1), list(1, 0, 0, 0, 1), step(4, 2, 2)},
		{list(1, 1, 0, 0, 0), list(1, 0, 0, 0, 0), list(0, 1, 0, 0, 0), list(1, 0, 0, 0, 0), step(0, -1, 1)},
		{list(0, 0, 0, 0, 1), list(0, 0, 0, 0, 1), list(0, 0, 0, 1, 0), list(0, 0, 0, 0, 1), step(4, 3, 1)},
	} {
		b, want := impl.Board{Own: c.own, Other: c.other}, impl.Board{Own: c.ownAfter, Other: c.otherAfter}
		if after, code := impl.ApplyStep(v, b, c.s); code != impl.ErrNone || !sameBoard(after, want) {
			t.Errorf("%v: %v leads to %v, code %d", b, c.s, after, code)
		}
		if back, code := impl.UndoStep(v, want, c.s); code != impl.ErrNone || !sameBoard(back, b) {
			t.Errorf("%v: %v undone leads to %v, code %d", want, c.s, back, code)
		}
	}
}

func TestLastStep(t *testing.T) {
	v := variant(4, 2, 2, 2)
	last := impl.Board{Own: list(1, 0, 0, 0, 0), Other: list(1, 0, 0, 0, 0)}
	for _, die := range list(1, 2) {
		after, code := impl.ApplyStep(v, last, step(0, -1, die))
		if code != impl.ErrNone || !impl.IsOver(v, after) || !sameBoard(after, impl.Board{Own: make([]int64, 5), Other: last.Other}) {
			t.Errorf("%d: %v, code %d", die, after, code)
		}
		if back, code := impl.UndoStep(v, after, step(0, -1, die)); code != impl.ErrNone || !sameBoard(back, last) {
			t.Errorf("%d: %v, code %d", die, back, code)
		}
	}
}

// TestNoStepToUndo has steps that fit their board, but not the one from which they would come.
func TestNoStepToUndo(t *testing.T) {
	v := variant(4, 2, 2, 2)
	for _, c := range []struct {
		own, other []int64
		s          impl.Step
	}{
		{list(1, 1, 0, 0, 0), list(1, 0, 0, 0, 0), step(0, -1, 1)}, // all checkers are there
		{list(0, 1, 0, 0, 0), list(0, 1, 0, 0, 0), step(3, 1, 1)},  // not the die
		{list(0, 1, 0, 0, 0), list(0, 1, 0, 0, 0), step(2, 1, 1)},  // the other player is at From
		{list(1, 0, 0, 0, 0), list(0, 1, 0, 0, 0), step(2, 1, 1)},  // no checker at To
		{list(0, 1, 0, 0, 1), list(1, 0, 0, 0, 0), step(2, 1, 1)},  // a checker on the bar
		{list(0, 1, 0, 0, 0), list(1, 0, 0, 0, 0), hit(2, 1, 1)},   // nothing was hit
		{list(0, 2, 0, 0, 0), list(0, 0, 0, 0, 1), hit(2, 1, 1)},   // a hit below an own checker
		{list(0, 0, 1, 0, 0), list(0, 0, 0, 0, 1), step(0, -1, 1)}, // not all were at home
		{list(0, 1, 0, 0, 0), list(0, 0, 0, 0, 1), step(0, -1, 2)}, // the greater point was not empty
		{list(1, 0, 0, 0, 0), list(0, 0, 0, 0, 1), hit(1, -1, 2)},  // nothing to hit there
		{list(0, 0, 0, 0, 0), list(1, 0, 0, 0, 0), step(1, 0, 1)},
		{list(0, 1, 0, 0, 0), list(0, 0, 0, 0, 0), step(2, 1, 1)}, // it was over before
		{list(1, 0, 0, 0, 0), list(0, 0, 0, 0, 0), step(0, -1, 1)},
		{list(0, 0, 1, 0, 0), list(1, 0, 0, 0, 0), step(5, 2, 3)},
		{list(0, 0, 1, 0, 0), list(1, 0, 0, 0, 0), step(2, 2, 0)},
		{list(0, 0, 1, 0, 0), list(1, 0, 0, 0, 0), step(1, 2, -1)},
	} {
		refuseUndo(t, v, impl.Board{Own: c.own, Other: c.other}, c.s)
	}
	refuseUndo(t, variant(4, 2, 2, 1), impl.Board{Own: list(0, 1, 0, 0, 0), Other: list(0, 0, 0, 0, 1)}, step(3, 1, 2)) // no such die
}

func TestOpenPoints(t *testing.T) {
	eachStepBoard(func(v impl.Variant, b impl.Board) {
		for i := int64(-2); i <= v.Points+2; i++ {
			facing := 0
			for _, k := range placesOf(b.Other) {
				if v.Points-1-k == i {
					facing++
				}
			}
			if open := i >= 0 && i < v.Points && facing <= 1; impl.IsOpenPoint(v, b, i) != open {
				t.Errorf("%v: %v: the point %d open is not %v", v, b, i, open)
			}
		}
	})
	v := variant(4, 2, 2, 2)
	b := impl.Board{Own: make([]int64, 5), Other: list(2, 0, 0, 0, 0)}
	if !impl.IsOver(v, b) || !impl.IsOpenPoint(v, b, 2) || impl.IsOpenPoint(v, b, 3) {
		t.Error("wrong points on a board that is over")
	}
}

func TestDiceOutOfRange(t *testing.T) {
	for _, v := range append(stepVariants(), impl.FullVariant()) {
		size := int(v.Points) + 1
		boards := []impl.Board{
			{Own: filled(size, map[int]int64{0: 1}), Other: filled(size, map[int]int64{0: 1})},
			{Own: filled(size, map[int]int64{0: 1}), Other: make([]int64, size)},
		}
		for _, b := range boards {
			for _, die := range list(0, -1, v.Sides+1, 7, -v.Sides, 1<<32+1, math.MinInt64, math.MaxInt64) {
				if list, code := impl.LegalSteps(v, b, die); code != impl.ErrRange || len(list) != 0 {
					t.Errorf("%v: %v: steps %v with %d, code %d", v, b, list, die, code)
				}
				if list, code := impl.HitSteps(v, b, die); code != impl.ErrRange || len(list) != 0 {
					t.Errorf("%v: %v: hits %v with %d, code %d", v, b, list, die, code)
				}
				checkStep(t, v, b, step(0, -1, die), false)
			}
		}
	}
}

func TestNoHitsOfRaces(t *testing.T) {
	races := 0
	eachStepBoard(func(v impl.Variant, b impl.Board) {
		if impl.IsContact(v, b) {
			return
		}
		races++
		for die := int64(1); die <= v.Sides; die++ {
			if list, code := impl.HitSteps(v, b, die); code != impl.ErrNone || len(list) != 0 {
				t.Errorf("%v: %v: hits %v with %d, code %d", v, b, list, die, code)
			}
		}
	})
	if races == 0 {
		t.Error("no race")
	}
}

func TestBlots(t *testing.T) {
	eachStepBoard(func(v impl.Variant, b impl.Board) {
		var want []int64
		for i := range v.Points {
			if impl.PointCount(v, b, i) == 1 {
				want = append(want, i)
			}
		}
		if blots, code := impl.BlotsOf(v, b); code != impl.ErrNone || !slices.Equal(blots, want) {
			t.Errorf("%v: %v: blots %v, code %d", v, b, blots, code)
		}
	})
	v := variant(4, 3, 2, 2)
	for _, c := range []struct{ own, other, want []int64 }{
		{list(0, 1, 0, 1, 0), list(0, 1, 0, 1, 0), list(1, 3)},
		{list(0, 0, 0, 0, 1), list(1, 0, 0, 0, 0), nil}, // the bar is no point
		{list(2, 0, 1, 0, 0), list(1, 0, 0, 0, 0), list(2)},
		{list(3, 0, 0, 0, 0), list(1, 0, 0, 0, 0), nil},
		{list(1, 1, 1, 0, 0), list(0, 0, 0, 0, 0), list(0, 1, 2)}, // over
		{list(0, 0, 0, 0, 0), list(1, 1, 1, 0, 0), nil},
	} {
		b := impl.Board{Own: c.own, Other: c.other}
		if blots, code := impl.BlotsOf(v, b); code != impl.ErrNone || !slices.Equal(blots, c.want) {
			t.Errorf("%v: blots %v, code %d", b, blots, code)
		}
	}
}

// shotsByRule tries all legal steps of the other player that come to its point.
func shotsByRule(v impl.Variant, b impl.Board, i int64) []int64 {
	var dice []int64
	swapped := impl.Board{Own: b.Other, Other: b.Own}
	for die := int64(1); die <= v.Sides; die++ {
		if legalByRule(v, swapped, hit(v.Points-1-i+die, v.Points-1-i, die)) {
			dice = append(dice, die)
		}
	}
	return dice
}

func checkShots(t *testing.T, v impl.Variant, b impl.Board, i int64, want []int64) {
	t.Helper()
	if dice, code := impl.DirectShots(v, b, i); code != impl.ErrNone || !slices.Equal(dice, want) {
		t.Errorf("%v: %v: shots %v at %d, code %d, not %v", v, b, dice, i, code, want)
	}
}

func refuseShots(t *testing.T, v impl.Variant, b impl.Board, i, want int64) {
	t.Helper()
	if dice, code := impl.DirectShots(v, b, i); code != want || len(dice) != 0 {
		t.Errorf("%v: %v: shots %v at %d, code %d, not %d", v, b, dice, i, code, want)
	}
}

func TestDirectShots(t *testing.T) {
	eachStepBoard(func(v impl.Variant, b impl.Board) {
		for i := int64(-2); i <= v.Points+2; i++ {
			if i >= 0 && i < v.Points && b.Own[i] == 1 {
				checkShots(t, v, b, i, shotsByRule(v, b, i))
			} else {
				refuseShots(t, v, b, i, impl.ErrNotFound)
			}
		}
	})
}

func TestExamplesOfShots(t *testing.T) {
	v, full := variant(4, 2, 2, 2), impl.FullVariant()
	for _, c := range []struct {
		own, other []int64
		i          int64
		want       []int64
	}{
		{list(0, 1, 0, 1, 0), list(0, 1, 0, 1, 0), 1, list(1)},
		{list(0, 1, 0, 1, 0), list(0, 1, 0, 1, 0), 3, list(1)},
		{list(0, 1, 0, 0, 0), list(1, 0, 0, 0, 0), 1, nil},     // behind all checkers of the other player
		{list(0, 0, 0, 1, 0), list(0, 0, 1, 1, 0), 3, list(2)}, // 3 is too far
		{list(1, 0, 0, 0, 0), list(0, 0, 0, 0, 1), 0, list(1)}, // from the bar
		{list(0, 1, 0, 0, 0), list(0, 0, 0, 1, 1), 1, list(2)}, // only from the bar
		{list(0, 0, 1, 0, 0), list(0, 0, 1, 0, 1), 2, nil},     // the checker on the bar must move first
		{list(0, 1, 0, 0, 1), list(0, 0, 0, 1, 0), 1, list(1)}, // the own bar does not matter
		{list(0, 1, 0, 0, 0), list(0, 0, 0, 0, 0), 1, nil},     // over
	} {
		checkShots(t, v, impl.Board{Own: c.own, Other: c.other}, c.i, c.want)
	}
	many := impl.Board{Own: filled(25, map[int]int64{10: 1}), Other: filled(25, map[int]int64{14: 1, 15: 2, 16: 1, 18: 3, 19: 1, 20: 1, 23: 1})}
	checkShots(t, full, many, 10, list(1, 2, 3, 5, 6))
}

func TestShotsAtNoBlot(t *testing.T) {
	v := variant(4, 3, 2, 2)
	b := impl.Board{Own: list(0, 2, 0, 0, 1), Other: list(1, 0, 0, 0, 1)}
	for _, i := range list(0, 1, 2, 3, 4, 5, -1, 1<<32+4, math.MinInt64, math.MaxInt64) { // 4 is the bar, with one checker
		refuseShots(t, v, b, i, impl.ErrNotFound)
	}
	over := impl.Board{Own: list(1, 2, 0, 0, 0), Other: make([]int64, 5)}
	checkShots(t, v, over, 0, nil)
	refuseShots(t, v, over, 1, impl.ErrNotFound)
}

// refuseSteps checks what every function returns if v or b is not valid, whatever else is wrong.
func refuseSteps(t *testing.T, v impl.Variant, b impl.Board) {
	t.Helper()
	for _, n := range list(math.MinInt64, -1, 0, 1, 2, 5, 7, 24, math.MaxInt64) {
		if impl.IsOpenPoint(v, b, n) {
			t.Errorf("%v: %v: the point %d is open", v, b, n)
		}
		if list, code := impl.LegalSteps(v, b, n); code != impl.ErrInvalid || len(list) != 0 {
			t.Errorf("%v: %v: steps %v with %d, code %d", v, b, list, n, code)
		}
		if list, code := impl.HitSteps(v, b, n); code != impl.ErrInvalid || len(list) != 0 {
			t.Errorf("%v: %v: hits %v with %d, code %d", v, b, list, n, code)
		}
		refuseShots(t, v, b, n, impl.ErrInvalid)
	}
	for _, s := range append(strangeSteps(), step(0, -1, 1), step(1, 0, 1), hit(1, 0, 1), step(24, 23, 1)) {
		if impl.IsLegalStep(v, b, s) {
			t.Errorf("%v: %v: %v is legal", v, b, s)
		}
		if after, code := impl.ApplyStep(v, b, s); code != impl.ErrInvalid || !zeroBoard(after) {
			t.Errorf("%v: %v: %v leads to %v, code %d", v, b, s, after, code)
		}
		if back, code := impl.UndoStep(v, b, s); code != impl.ErrInvalid || !zeroBoard(back) {
			t.Errorf("%v: %v: %v undone leads to %v, code %d", v, b, s, back, code)
		}
	}
	if blots, code := impl.BlotsOf(v, b); code != impl.ErrInvalid || len(blots) != 0 {
		t.Errorf("%v: %v: blots %v, code %d", v, b, blots, code)
	}
}

func TestStepsOfInvalidBoards(t *testing.T) {
	for _, b := range invalidBoards() {
		refuseSteps(t, impl.FullVariant(), b)
	}
	for _, v := range invalidVariants() {
		refuseSteps(t, v, impl.Board{})
		for _, size := range []int{1, 2, 3, 25, 26} {
			refuseSteps(t, v, impl.Board{Own: filled(size, map[int]int64{0: 1}), Other: filled(size, map[int]int64{0: 1})})
		}
	}
	b := impl.Board{Own: list(2, 0, 0, 0, 0), Other: list(2, 0, 0, 0, 0)}
	refuseSteps(t, variant(3, 2, 2, 2), b)
	refuseSteps(t, variant(5, 2, 2, 2), b)
	refuseSteps(t, variant(4, 1, 2, 2), b)
	refuseSteps(t, variant(2, 2, 1, 2), impl.Board{Own: list(0, 1, 0), Other: list(1, 0, 0)})
}

// TestBoardsAfterStepsAreNew has one list as both sides, and memory behind it.
func TestBoardsAfterStepsAreNew(t *testing.T) {
	v := variant(4, 2, 2, 2)
	memory := list(0, 1, 0, 1, 0, 77, 88)
	before := slices.Clone(memory)
	b := impl.Board{Own: memory[:5], Other: memory[:5]}
	entered := list(0, 0, 0, 1, 1)
	for range 2 { // nothing is kept from the first time
		for _, c := range []struct {
			run        func() (impl.Board, int64)
			own, other []int64
		}{
			{run: func() (impl.Board, int64) { return impl.ApplyStep(v, b, hit(3, 2, 1)) }, own: list(0, 1, 1, 0, 0), other: list(0, 0, 0, 1, 1)},
			{run: func() (impl.Board, int64) {
				return impl.UndoStep(v, impl.Board{Own: entered, Other: entered}, hit(4, 3, 1))
			}, own: list(0, 0, 0, 0, 2), other: list(1, 0, 0, 1, 0)},
		} {
			got, code := c.run()
			if code != impl.ErrNone || !slices.Equal(got.Own, c.own) || !slices.Equal(got.Other, c.other) {
				t.Fatal(got, code)
			}
			for i := range got.Own {
				got.Own[i] = 99
			}
			_ = append(got.Own, 55, 55, 55, 55, 55, 55)
			if !slices.Equal(got.Other, c.other) {
				t.Error("the sides share memory")
			}
			_ = append(got.Other, 66, 66, 66, 66, 66, 66)
			if !slices.Equal(memory, before) || !slices.Equal(entered, list(0, 0, 0, 1, 1)) {
				t.Fatal(memory, entered)
			}
		}
	}
}

// TestListsOfStepsAreNew changes every list that is returned.
func TestListsOfStepsAreNew(t *testing.T) {
	v := variant(4, 2, 2, 2)
	memory := list(0, 1, 0, 1, 0, 77, 0, 1, 0, 1, 0, 88)
	before := slices.Clone(memory)
	b := impl.Board{Own: memory[0:5], Other: memory[6:11]}
	for range 2 {
		checkSteps(t, v, b, 1, steps(hit(3, 2, 1), hit(1, 0, 1)))
		legal, _ := impl.LegalSteps(v, b, 1)
		hits, _ := impl.HitSteps(v, b, 1)
		legal[0], hits[1] = impl.Step{}, impl.Step{}
		blots, code := impl.BlotsOf(v, b)
		if code != impl.ErrNone || !slices.Equal(blots, list(1, 3)) {
			t.Error(blots, code)
		}
		blots[0] = 99
		checkShots(t, v, b, 1, list(1))
		shots, _ := impl.DirectShots(v, b, 1)
		shots[0] = 99
		if !impl.IsOpenPoint(v, b, 2) || !impl.IsLegalStep(v, b, step(3, 1, 2)) || !slices.Equal(memory, before) {
			t.Fatal(memory)
		}
	}
}
