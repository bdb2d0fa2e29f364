package tests

import (
	"math"
	"math/rand"
	"slices"
	"testing"

	"loop.example/g00885/impl"
)

// eachList calls f for every list of n numbers in low..high. The list is changed after each call.
func eachList(n int, low, high int64, f func(list []int64)) {
	list := slices.Repeat([]int64{low}, n)
	for {
		f(list)
		i := n - 1
		for i >= 0 && list[i] == high {
			list[i] = low
			i--
		}
		if i < 0 {
			return
		}
		list[i]++
	}
}

func sumOf(list []int64) int64 {
	sum := int64(0)
	for _, n := range list {
		sum += n
	}
	return sum
}

// sidesOf returns every list that can be a side of a board of v.
func sidesOf(v impl.Variant) [][]int64 {
	var sides [][]int64
	eachList(int(v.Points)+1, 0, v.Checkers, func(list []int64) {
		if sumOf(list) <= v.Checkers {
			sides = append(sides, slices.Clone(list))
		}
	})
	return sides
}

// placesOf returns the points, or the bar, of the checkers of a side, one for each checker.
func placesOf(side []int64) []int64 {
	var places []int64
	for i, n := range side {
		for range n {
			places = append(places, int64(i))
		}
	}
	return places
}

// meet reports whether a point has checkers of both players.
func meet(v impl.Variant, own, other []int64) bool {
	for _, i := range placesOf(own) {
		for _, k := range placesOf(other) {
			if i < v.Points && k < v.Points && i == v.Points-1-k {
				return true
			}
		}
	}
	return false
}

// eachBoard calls f for every valid board of v.
func eachBoard(v impl.Variant, f func(b impl.Board)) {
	sides := sidesOf(v)
	for _, own := range sides {
		for _, other := range sides {
			if sumOf(own)+sumOf(other) > 0 && !meet(v, own, other) {
				f(impl.Board{Own: own, Other: other})
			}
		}
	}
}

// eachSmallBoard calls f for every valid board of some small variants, with every Home.
func eachSmallBoard(f func(v impl.Variant, b impl.Board)) {
	for points := int64(2); points <= 5; points++ {
		for checkers := int64(1); checkers <= 3; checkers++ {
			for home := int64(1); home <= points; home++ {
				v := variant(points, checkers, home, 2)
				eachBoard(v, func(b impl.Board) { f(v, b) })
			}
		}
	}
}

// randomBoard places some checkers of both players where they fit.
func randomBoard(r *rand.Rand, v impl.Variant) impl.Board {
	b := impl.Board{Own: make([]int64, v.Points+1), Other: make([]int64, v.Points+1)}
	b.Own[r.Int63n(v.Points+1)]++
	for range r.Int63n(v.Checkers) {
		b.Own[r.Int63n(v.Points+1)]++
	}
	for range r.Int63n(v.Checkers + 1) {
		k := r.Int63n(v.Points + 1)
		if k == v.Points || b.Own[v.Points-1-k] == 0 {
			b.Other[k]++
		}
	}
	return b
}

// eachRandomBoard calls f for random boards of random variants, and of the full game.
func eachRandomBoard(f func(v impl.Variant, b impl.Board)) {
	r := rand.New(rand.NewSource(2))
	for i := range 4000 {
		v := impl.FullVariant()
		if i%2 == 0 {
			points := 2 + r.Int63n(23)
			v = variant(points, 1+r.Int63n(15), 1+r.Int63n(points), 1+r.Int63n(6))
		}
		f(v, randomBoard(r, v))
	}
}

func eachTestBoard(f func(v impl.Variant, b impl.Board)) {
	eachSmallBoard(f)
	eachRandomBoard(f)
}

func sameBoard(a, b impl.Board) bool {
	return slices.Equal(a.Own, b.Own) && slices.Equal(a.Other, b.Other)
}

// zeroBoard is the board that is returned beside false, or for an invalid argument.
func zeroBoard(b impl.Board) bool { return len(b.Own) == 0 && len(b.Other) == 0 }

func list(n ...int64) []int64 { return n }

// filled returns a list of the length n that has the counts at the places.
func filled(n int, counts map[int]int64) []int64 {
	side := make([]int64, n)
	for i, c := range counts {
		side[i] = c
	}
	return side
}

func TestValidBoards(t *testing.T) {
	eachTestBoard(func(v impl.Variant, b impl.Board) {
		if !impl.IsBoard(v, b) {
			t.Errorf("%v: %v is not valid", v, b)
		}
	})
}

// TestEveryTinyBoard compares IsBoard with the definition on all lists that are near to a side.
func TestEveryTinyBoard(t *testing.T) {
	for _, v := range []impl.Variant{variant(2, 1, 1, 1), variant(2, 2, 2, 3), variant(2, 4, 1, 6), variant(3, 2, 2, 2)} {
		size := int(v.Points) + 1
		eachList(size, -1, v.Checkers+1, func(own []int64) {
			eachList(size, -1, v.Checkers+1, func(other []int64) {
				good := slices.Min(own) >= 0 && slices.Min(other) >= 0 &&
					sumOf(own) <= v.Checkers && sumOf(other) <= v.Checkers &&
					sumOf(own)+sumOf(other) > 0 && !meet(v, own, other)
				if impl.IsBoard(v, impl.Board{Own: own, Other: other}) != good {
					t.Errorf("%v: %v %v: not %v", v, own, other, good)
				}
			})
		})
	}
}

// invalidSides has lists that can be no side of a board of the full game.
func invalidSides() map[string][]int64 {
	const huge = math.MaxInt64
	return map[string][]int64{
		"nil":                   nil,
		"empty":                 {},
		"one too short":         filled(24, map[int]int64{0: 2}),
		"one too long":          filled(26, map[int]int64{0: 2}),
		"longer without any":    make([]int64, 26),
		"negative":              filled(25, map[int]int64{0: 2, 1: -1}),
		"negative bar":          filled(25, map[int]int64{24: -1}),
		"least number":          filled(25, map[int]int64{3: math.MinInt64}),
		"one too many":          filled(25, map[int]int64{5: 16}),
		"one too many in sum":   filled(25, map[int]int64{5: 15, 24: 1}),
		"a negative makes room": filled(25, map[int]int64{5: 16, 7: -1}),
		"sum wraps to 0":        filled(25, map[int]int64{0: huge, 1: huge, 2: 2}),
		"sum wraps to 1":        filled(25, map[int]int64{0: huge, 1: huge, 24: 3}),
		"sum wraps below 0":     filled(25, map[int]int64{0: huge, 1: 1}),
		"32 bits":               filled(25, map[int]int64{0: 1 << 32}),
		"63 bits":               filled(25, map[int]int64{0: 1 << 62, 1: 1 << 62, 2: 1 << 62, 3: 1 << 62}),
	}
}

// invalidBoards has boards of the full game that break one rule each.
func invalidBoards() map[string]impl.Board {
	some := filled(25, map[int]int64{0: 2})
	boards := map[string]impl.Board{
		"no checkers":       {Own: make([]int64, 25), Other: make([]int64, 25)},
		"zero value":        {},
		"shared point":      {Own: filled(25, map[int]int64{5: 1}), Other: filled(25, map[int]int64{18: 1})},
		"shared first":      {Own: filled(25, map[int]int64{0: 1}), Other: filled(25, map[int]int64{23: 14})},
		"shared last":       {Own: filled(25, map[int]int64{23: 15}), Other: filled(25, map[int]int64{0: 1})},
		"lengths 24 and 26": {Own: make([]int64, 24), Other: filled(26, map[int]int64{0: 1})},
	}
	for name, side := range invalidSides() {
		boards["own "+name] = impl.Board{Own: side, Other: some}
		boards["other "+name] = impl.Board{Own: some, Other: side}
		boards["both "+name] = impl.Board{Own: side, Other: slices.Clone(side)}
	}
	return boards
}

func TestLimitsOfBoards(t *testing.T) {
	full := impl.FullVariant()
	for _, b := range []impl.Board{
		{Own: filled(25, map[int]int64{0: 15}), Other: make([]int64, 25)},
		{Own: filled(25, map[int]int64{24: 15}), Other: filled(25, map[int]int64{24: 15})},
		{Own: filled(25, map[int]int64{23: 15}), Other: filled(25, map[int]int64{23: 15})},
		{Own: filled(25, map[int]int64{0: 15}), Other: filled(25, map[int]int64{24: 1})},
		{Own: make([]int64, 25), Other: filled(25, map[int]int64{24: 1})},
		{Own: filled(25, map[int]int64{5: 1}), Other: filled(25, map[int]int64{17: 1, 19: 1})},
	} {
		if !impl.IsBoard(full, b) {
			t.Errorf("%v is not valid", b)
		}
	}
	for name, b := range invalidBoards() {
		if impl.IsBoard(full, b) {
			t.Errorf("%s: %v is valid", name, b)
		}
	}
}

// refuseBoard checks what every function returns if v or b is not valid.
func refuseBoard(t *testing.T, v impl.Variant, b impl.Board) {
	t.Helper()
	if impl.IsBoard(v, b) || impl.IsContact(v, b) || impl.AllHome(v, b) || impl.IsOver(v, b) {
		t.Errorf("%v: %v has a property", v, b)
	}
	if x, y := impl.BorneOff(v, b); x != -1 || y != -1 {
		t.Errorf("%v: %v: borne off %d, %d", v, b, x, y)
	}
	if x, y := impl.PipCounts(v, b); x != -1 || y != -1 {
		t.Errorf("%v: %v: pips %d, %d", v, b, x, y)
	}
	if s := impl.SwapBoard(v, b); !zeroBoard(s) {
		t.Errorf("%v: %v: swapped to %v", v, b, s)
	}
	for _, i := range list(math.MinInt64, -1, 0, 1, 5, 18, 23, 24, math.MaxInt64) {
		if n := impl.PointCount(v, b, i); n != 0 {
			t.Errorf("%v: %v: %d on the point %d", v, b, n, i)
		}
	}
}

func TestInvalidBoards(t *testing.T) {
	for _, b := range invalidBoards() {
		refuseBoard(t, impl.FullVariant(), b)
	}
}

// TestBoardsOfInvalidVariants uses lists that would fit the number of points, where there are such.
func TestBoardsOfInvalidVariants(t *testing.T) {
	for _, v := range invalidVariants() {
		refuseBoard(t, v, impl.Board{})
		for _, size := range []int{1, 2, 3, 25, 26} {
			refuseBoard(t, v, impl.Board{Own: filled(size, map[int]int64{0: 1}), Other: make([]int64, size)})
		}
	}
}

func TestBoardsOfOtherVariants(t *testing.T) {
	b := impl.Board{Own: list(2, 0, 0, 0, 0), Other: list(2, 0, 0, 0, 0)}
	refuseBoard(t, variant(3, 2, 2, 2), b)
	refuseBoard(t, variant(5, 2, 2, 2), b)
	refuseBoard(t, variant(4, 1, 2, 2), b)
	refuseBoard(t, variant(2, 2, 1, 2), impl.Board{Own: list(0, 1, 0), Other: list(1, 0, 0)})
}

func TestStartOfTheFullGame(t *testing.T) {
	side := filled(25, map[int]int64{5: 5, 7: 3, 12: 5, 23: 2})
	b, ok := impl.StartBoard(impl.FullVariant())
	if !ok || !slices.Equal(b.Own, side) || !slices.Equal(b.Other, side) {
		t.Error(b, ok)
	}
}

func TestStartOfOtherVariants(t *testing.T) {
	eachVariant(func(v impl.Variant) {
		if v == impl.FullVariant() {
			return
		}
		b, ok := impl.StartBoard(v)
		if v.Points < 4 {
			if ok || !zeroBoard(b) {
				t.Errorf("%v: %v, %v", v, b, ok)
			}
			return
		}
		side := make([]int64, v.Points+1)
		for i := range v.Checkers { // every second checker is a back one
			side[[2]int64{v.Points/2 - 1, v.Points - 1}[i%2]]++
		}
		if !ok || !slices.Equal(b.Own, side) || !slices.Equal(b.Other, side) {
			t.Errorf("%v: %v, %v", v, b, ok)
		}
	})
	for _, v := range invalidVariants() {
		if b, ok := impl.StartBoard(v); ok || !zeroBoard(b) {
			t.Errorf("%v: %v, %v", v, b, ok)
		}
	}
}

func TestStartBoardsAreValid(t *testing.T) {
	eachVariant(func(v impl.Variant) {
		b, ok := impl.StartBoard(v)
		if !ok {
			return
		}
		own, other := impl.BorneOff(v, b)
		if !impl.IsBoard(v, b) || impl.IsOver(v, b) || own != 0 || other != 0 || !sameBoard(impl.SwapBoard(v, b), b) {
			t.Errorf("%v: %v", v, b)
		}
	})
}

func TestStartBoardIsNew(t *testing.T) {
	for _, v := range []impl.Variant{impl.FullVariant(), variant(4, 2, 2, 2)} {
		first, _ := impl.StartBoard(v)
		want := slices.Clone(first.Other)
		for i := range first.Own {
			first.Own[i] = 99
		}
		if !slices.Equal(first.Other, want) {
			t.Errorf("%v: the sides share memory", v)
		}
		if next, ok := impl.StartBoard(v); !ok || !slices.Equal(next.Own, want) || !slices.Equal(next.Other, want) {
			t.Errorf("%v: %v, %v after a change of an earlier board", v, next, ok)
		}
	}
}

func TestCountsOfBoards(t *testing.T) {
	eachTestBoard(func(v impl.Variant, b impl.Board) {
		off, pips := [2]int64{v.Checkers, v.Checkers}, [2]int64{}
		for player, side := range [][]int64{b.Own, b.Other} {
			for _, i := range placesOf(side) {
				off[player]--
				pips[player] += i + 1
			}
		}
		if x, y := impl.BorneOff(v, b); [2]int64{x, y} != off {
			t.Errorf("%v: %v: borne off %d, %d", v, b, x, y)
		}
		if x, y := impl.PipCounts(v, b); [2]int64{x, y} != pips {
			t.Errorf("%v: %v: pips %d, %d", v, b, x, y)
		}
	})
}

func TestStatesOfBoards(t *testing.T) {
	eachTestBoard(func(v impl.Variant, b impl.Board) {
		own, other := placesOf(b.Own), placesOf(b.Other)
		home, contact := true, false
		for _, i := range own {
			home = home && i < v.Home
			for _, k := range other {
				contact = contact || i+k >= v.Points
			}
		}
		over := len(own) == 0 || len(other) == 0
		if impl.IsContact(v, b) != contact || impl.AllHome(v, b) != home || impl.IsOver(v, b) != over {
			t.Errorf("%v: %v: not contact %v, home %v, over %v", v, b, contact, home, over)
		}
	})
}

func TestPointCounts(t *testing.T) {
	eachTestBoard(func(v impl.Variant, b impl.Board) {
		for i := range v.Points {
			want := b.Own[i]
			if facing := b.Other[v.Points-1-i]; facing > 0 {
				want = -facing
			}
			if n := impl.PointCount(v, b, i); n != want {
				t.Errorf("%v: %v: %d on the point %d", v, b, n, i)
			}
		}
	})
}

// TestNoSuchPoint has checkers on both bars, which are not points.
func TestNoSuchPoint(t *testing.T) {
	v := variant(4, 2, 2, 2)
	b := impl.Board{Own: list(1, 0, 0, 0, 1), Other: list(1, 0, 0, 0, 1)}
	for _, i := range list(math.MinInt64, -1<<32, -5, -1, 4, 5, 1<<32, math.MaxInt64) {
		if n := impl.PointCount(v, b, i); n != 0 {
			t.Errorf("%d on the point %d", n, i)
		}
	}
}

// TestExamplesOfBoards has cases at the limits of the definitions.
func TestExamplesOfBoards(t *testing.T) {
	v := variant(4, 2, 2, 2)
	for _, c := range []struct {
		own, other          []int64
		contact, home, over bool
	}{
		{list(2, 0, 0, 0, 0), list(2, 0, 0, 0, 0), false, true, false},
		{list(0, 1, 0, 1, 0), list(0, 1, 0, 1, 0), true, false, false},
		{list(0, 0, 0, 0, 0), list(1, 0, 0, 0, 0), false, true, true},
		{list(1, 0, 0, 0, 0), list(0, 0, 0, 0, 0), false, true, true},
		{list(0, 0, 0, 0, 1), list(0, 0, 0, 0, 0), false, false, true},
		{list(0, 0, 0, 0, 0), list(0, 0, 0, 0, 2), false, true, true},
		{list(0, 2, 0, 0, 0), list(1, 0, 0, 0, 0), false, true, false}, // i + k = 1
		{list(0, 0, 2, 0, 0), list(0, 0, 1, 0, 0), true, false, false}, // i + k = 4
		{list(0, 1, 0, 0, 0), list(0, 0, 0, 2, 0), true, true, false},  // i + k = 4
		{list(1, 0, 0, 0, 0), list(0, 0, 1, 0, 0), false, true, false}, // i + k = 2
		{list(1, 0, 0, 0, 0), list(0, 0, 0, 0, 1), true, true, false},
		{list(0, 0, 0, 0, 1), list(1, 0, 0, 0, 0), true, false, false},
		{list(0, 0, 0, 0, 1), list(0, 0, 0, 0, 1), true, false, false},
		{list(0, 1, 1, 0, 0), list(1, 0, 0, 0, 0), false, false, false},
	} {
		b := impl.Board{Own: c.own, Other: c.other}
		if !impl.IsBoard(v, b) || impl.IsContact(v, b) != c.contact || impl.AllHome(v, b) != c.home || impl.IsOver(v, b) != c.over {
			t.Errorf("%v: not contact %v, home %v, over %v", b, c.contact, c.home, c.over)
		}
	}
}

// TestBarIsNotHome has every point at home.
func TestBarIsNotHome(t *testing.T) {
	v := variant(4, 2, 4, 2)
	if !impl.AllHome(v, impl.Board{Own: list(0, 1, 0, 1, 0), Other: list(0, 0, 0, 0, 1)}) {
		t.Error("a checker on the last point is not at home")
	}
	if impl.AllHome(v, impl.Board{Own: list(1, 0, 0, 0, 1), Other: list(0, 0, 0, 0, 0)}) {
		t.Error("a checker on the bar is at home")
	}
}

// TestSwappedBoards checks promise 2.
func TestSwappedBoards(t *testing.T) {
	eachTestBoard(func(v impl.Variant, b impl.Board) {
		s := impl.SwapBoard(v, b)
		if !slices.Equal(s.Own, b.Other) || !slices.Equal(s.Other, b.Own) || !sameBoard(impl.SwapBoard(v, s), b) {
			t.Errorf("%v: %v: swapped to %v", v, b, s)
		}
		if !impl.IsBoard(v, s) || impl.IsContact(v, s) != impl.IsContact(v, b) || impl.IsOver(v, s) != impl.IsOver(v, b) {
			t.Errorf("%v: %v: swapping changes its state", v, b)
		}
		for i := range v.Points {
			if impl.PointCount(v, s, i) != -impl.PointCount(v, b, v.Points-1-i) {
				t.Errorf("%v: %v: swapping changes the point %d", v, b, i)
			}
		}
		swapsCounts(t, v, b, s)
	})
}

func swapsCounts(t *testing.T, v impl.Variant, b, s impl.Board) {
	t.Helper()
	offOwn, offOther := impl.BorneOff(v, b)
	if x, y := impl.BorneOff(v, s); x != offOther || y != offOwn {
		t.Errorf("%v: %v: borne off %d, %d after the swap", v, b, x, y)
	}
	pipsOwn, pipsOther := impl.PipCounts(v, b)
	if x, y := impl.PipCounts(v, s); x != pipsOther || y != pipsOwn {
		t.Errorf("%v: %v: pips %d, %d after the swap", v, b, x, y)
	}
}

func TestSwappedBoardIsNew(t *testing.T) {
	v := variant(4, 2, 2, 2)
	side := list(1, 1, 0, 0, 0)
	s := impl.SwapBoard(v, impl.Board{Own: side, Other: side})
	for i := range s.Own {
		s.Own[i] = 99
	}
	if want := list(1, 1, 0, 0, 0); !slices.Equal(side, want) || !slices.Equal(s.Other, want) {
		t.Error(side, s)
	}
	for i := range s.Other {
		s.Other[i] = 99
	}
	if !slices.Equal(side, list(1, 1, 0, 0, 0)) {
		t.Error(side)
	}
}

// TestBoardsAreNotChanged has lists with memory behind them.
func TestBoardsAreNotChanged(t *testing.T) {
	v := variant(4, 2, 2, 2)
	memory := list(0, 1, 0, 0, 1, 77, 1, 0, 0, 0, 1, 88)
	before := slices.Clone(memory)
	b := impl.Board{Own: memory[0:5], Other: memory[6:11]}
	for range 2 { // nothing is kept from the first time
		if !impl.IsBoard(v, b) || !impl.IsContact(v, b) || impl.AllHome(v, b) || impl.IsOver(v, b) || impl.PointCount(v, b, 3) != -1 {
			t.Error("wrong state")
		}
		if x, y := impl.PipCounts(v, b); x != 7 || y != 6 {
			t.Error(x, y)
		}
		if x, y := impl.BorneOff(v, b); x != 0 || y != 0 {
			t.Error(x, y)
		}
		s := impl.SwapBoard(v, b)
		_ = append(s.Own, 55)
		_ = append(s.Other, 55)
		if !slices.Equal(memory, before) {
			t.Fatal(memory)
		}
	}
}
