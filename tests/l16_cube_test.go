package tests

import (
	"fmt"
	"maps"
	"math"
	"slices"
	"strings"
	"sync"
	"testing"

	"loop.example/g00885/impl"
)

func cube(value, owner int64) impl.Cube { return impl.Cube{Value: value, Owner: owner} }

func upTo(most int64) impl.CubeRules { return impl.CubeRules{Most: most} }

func beaversUpTo(most int64) impl.CubeRules { return impl.CubeRules{Most: most, Beavers: true} }

func jacobyUpTo(most int64) impl.CubeRules { return impl.CubeRules{Most: most, Jacoby: true} }

func cubeValues() []int64 { return list(1, 2, 4, 8, 16, 32, 64, 128, 256, 512, 1024) }

// rulesWith returns the four rules with a greatest value.
func rulesWith(most int64) []impl.CubeRules {
	return []impl.CubeRules{upTo(most), beaversUpTo(most), jacobyUpTo(most), {Most: most, Beavers: true, Jacoby: true}}
}

func allCubeRules() []impl.CubeRules {
	var all []impl.CubeRules
	for _, most := range cubeValues() {
		all = append(all, rulesWith(most)...)
	}
	return all
}

// cubesUpTo returns the valid cubes, the one in the middle first.
func cubesUpTo(most int64) []impl.Cube {
	cubes := []impl.Cube{cube(1, 0)}
	for _, value := range cubeValues()[1:] {
		if value <= most {
			cubes = append(cubes, cube(value, 1), cube(value, 2))
		}
	}
	return cubes
}

// farNumbers are far from all values, owners, actions and kinds; some of them are like one of these in
// their lowest bits, and some are powers of two.
func farNumbers() []int64 {
	return list(math.MinInt64, math.MinInt64+1, math.MinInt64+2, -1<<62, -1<<32, -1<<32+1, -1024, 1<<16+1, 1<<31, 1<<32-1, 1<<32,
		1<<32+1, 1<<32+2, 1<<32+1024, 1<<53, 1<<61, 1<<62, 1<<62+1, math.MaxInt64-1, math.MaxInt64)
}

// eachNumberNear calls f for all small numbers and those that are far.
func eachNumberNear(f func(n int64)) {
	for n := int64(-1100); n <= 4200; n++ {
		f(n)
	}
	for _, n := range farNumbers() {
		f(n)
	}
}

// otherNumbers are those around a range and those that are far.
func otherNumbers(low, high int64) []int64 {
	return append(farNumbers(), low-3, low-2, low-1, high+1, high+2, high+3, high+256)
}

func invalidCubeRules() []impl.CubeRules {
	all := rulesWith(0)
	for _, most := range append(farNumbers(), -4, -2, -1, 3, 5, 6, 7, 12, 1023, 1025, 1536, 2047, 2048, 4096) {
		all = append(all, rulesWith(most)...)
	}
	return all
}

// otherCubes are cubes that are valid for no rules, or only for higher ones.
func otherCubes(most int64) []impl.Cube {
	cubes := []impl.Cube{{}, cube(1, 1), cube(1, 2), cube(2, 0), cube(4, 0), cube(1024, 0), cube(0, 1), cube(0, 2), cube(3, 1), cube(6, 2),
		cube(2*most, 0), cube(2*most, 1), cube(2*most, 2), cube(2048, 1), cube(-1, 0), cube(-2, 1)}
	for _, owner := range otherNumbers(0, 2) {
		cubes = append(cubes, cube(1, owner), cube(most, owner))
	}
	for _, value := range farNumbers() {
		cubes = append(cubes, cube(value, 0), cube(value, 1), cube(value, 2))
	}
	return cubes
}

func TestNumbersOfCubeActions(t *testing.T) {
	numbers := [6]int64{impl.MaxCubeValue, impl.CubeRoll, impl.CubeTake, impl.CubePass, impl.CubeBeaver, impl.CubeRaccoon}
	if numbers != [6]int64{1024, 0, 1, 2, 3, 4} {
		t.Error(numbers)
	}
}

func TestCubeRules(t *testing.T) {
	eachNumberNear(func(most int64) {
		want := slices.Contains(cubeValues(), most)
		for _, r := range rulesWith(most) {
			if got := impl.IsCubeRules(r); got != want {
				t.Errorf("%v is valid: %t", r, got)
			}
		}
	})
	for _, r := range invalidCubeRules() {
		if impl.IsCubeRules(r) {
			t.Errorf("%v is valid", r)
		}
	}
}

func TestCubes(t *testing.T) {
	for _, r := range allCubeRules() {
		valid := map[impl.Cube]bool{}
		for _, c := range cubesUpTo(r.Most) {
			valid[c] = true
		}
		check := func(c impl.Cube) {
			if got := impl.IsCube(r, c); got != valid[c] {
				t.Errorf("%v: %v is valid: %t", r, c, got)
			}
		}
		eachNumberNear(func(value int64) {
			for owner := int64(-1); owner <= 3; owner++ {
				check(cube(value, owner))
			}
		})
		for _, value := range cubeValues() {
			for _, owner := range otherNumbers(0, 2) {
				check(cube(value, owner))
			}
		}
	}
}

func checkSwap(t *testing.T, c, want impl.Cube) {
	t.Helper()
	if got := impl.SwapCube(c); got != want {
		t.Errorf("%v is %v for the other player, not %v", c, got, want)
	}
	if back := impl.SwapCube(impl.SwapCube(c)); back != c {
		t.Errorf("%v is %v if it is swapped twice", c, back)
	}
}

// TestSwappedCubes has values and owners that are not valid, too.
func TestSwappedCubes(t *testing.T) {
	for _, value := range append(farNumbers(), -1, 0, 1, 2, 3, 1024, 2048) {
		checkSwap(t, cube(value, 0), cube(value, 0))
		checkSwap(t, cube(value, 1), cube(value, 2))
		checkSwap(t, cube(value, 2), cube(value, 1))
		for _, owner := range otherNumbers(0, 2) {
			checkSwap(t, cube(value, owner), cube(value, owner))
		}
	}
	for _, r := range allCubeRules() {
		for _, c := range cubesUpTo(r.Most) {
			if !impl.IsCube(r, impl.SwapCube(c)) {
				t.Errorf("%v: %v is not valid for the other player", r, c)
			}
		}
	}
}

// actionsByRule adds the actions in order, as far as the value and the rules allow them.
func actionsByRule(r impl.CubeRules, c impl.Cube) []int64 {
	actions := list(impl.CubeRoll)
	if c.Owner == 2 || c.Value > r.Most/2 {
		return actions
	}
	actions = append(actions, impl.CubeTake, impl.CubePass)
	if r.Beavers && c.Value <= r.Most/4 {
		actions = append(actions, impl.CubeBeaver)
	}
	if r.Beavers && c.Value <= r.Most/8 {
		actions = append(actions, impl.CubeRaccoon)
	}
	return actions
}

// An outcome is what follows an action.
type outcome struct {
	cube   impl.Cube
	points int64
}

// outcomeByRule expects an action that is possible.
func outcomeByRule(c impl.Cube, action int64) outcome {
	return map[int64]outcome{
		impl.CubeRoll:    {cube: c},
		impl.CubeTake:    {cube: cube(c.Value+c.Value, 2)},
		impl.CubePass:    {points: c.Value},
		impl.CubeBeaver:  {cube: cube(4*c.Value, 2)},
		impl.CubeRaccoon: {cube: cube(8*c.Value, 2)},
	}[action]
}

func checkActions(t *testing.T, r impl.CubeRules, c impl.Cube, want ...int64) {
	t.Helper()
	if got := impl.CubeActions(r, c); !slices.Equal(got, want) {
		t.Errorf("%v: %v has the actions %v, not %v", r, c, got, want)
	}
	if got := impl.CanDouble(r, c); got != slices.Contains(want, impl.CubeTake) {
		t.Errorf("%v: the player may double %v: %t", r, c, got)
	}
}

func checkOutcome(t *testing.T, r impl.CubeRules, c impl.Cube, action int64, want outcome) {
	t.Helper()
	if next, points, code := impl.AfterAction(r, c, action); (outcome{next, points}) != want || code != impl.ErrNone {
		t.Errorf("%v: %v becomes %v after the action %d, with %d points, code %d, not %v", r, c, next, action, points, code, want)
	}
}

func refuseAction(t *testing.T, r impl.CubeRules, c impl.Cube, action, want int64) {
	t.Helper()
	if next, points, code := impl.AfterAction(r, c, action); next != (impl.Cube{}) || points != 0 || code != want {
		t.Errorf("%v: %v becomes %v after the action %d, with %d points, code %d, not %d", r, c, next, action, points, code, want)
	}
}

// TestActionsOfAllCubes has all rules, cubes and actions, and numbers that are no actions.
func TestActionsOfAllCubes(t *testing.T) {
	for _, r := range allCubeRules() {
		for _, c := range cubesUpTo(r.Most) {
			possible := actionsByRule(r, c)
			checkActions(t, r, c, possible...)
			for action := range int64(5) {
				if slices.Contains(possible, action) {
					checkOutcome(t, r, c, action, outcomeByRule(c, action))
				} else {
					refuseAction(t, r, c, action, impl.ErrRange)
				}
			}
			for _, action := range otherNumbers(0, 4) {
				refuseAction(t, r, c, action, impl.ErrRange)
			}
		}
	}
}

func TestExamplesOfActions(t *testing.T) {
	// The player may double below the greatest value only.
	checkActions(t, upTo(1), cube(1, 0), 0)
	checkActions(t, beaversUpTo(1), cube(1, 0), 0)
	checkActions(t, upTo(2), cube(1, 0), 0, 1, 2)
	checkActions(t, upTo(2), cube(2, 1), 0)
	checkActions(t, upTo(1024), cube(512, 1), 0, 1, 2)
	checkActions(t, upTo(1024), cube(1024, 1), 0)
	// The other player owns the cube.
	checkActions(t, beaversUpTo(1024), cube(2, 2), 0)
	checkActions(t, beaversUpTo(1024), cube(512, 2), 0)
	checkActions(t, beaversUpTo(2), cube(2, 2), 0)
	// Beavers and raccoons have limits of their own, and rules may exclude them.
	checkActions(t, beaversUpTo(2), cube(1, 0), 0, 1, 2)
	checkActions(t, beaversUpTo(4), cube(1, 0), 0, 1, 2, 3)
	checkActions(t, beaversUpTo(4), cube(2, 1), 0, 1, 2)
	checkActions(t, beaversUpTo(8), cube(1, 0), 0, 1, 2, 3, 4)
	checkActions(t, beaversUpTo(8), cube(2, 1), 0, 1, 2, 3)
	checkActions(t, beaversUpTo(1024), cube(128, 1), 0, 1, 2, 3, 4)
	checkActions(t, beaversUpTo(1024), cube(256, 1), 0, 1, 2, 3)
	checkActions(t, beaversUpTo(1024), cube(512, 1), 0, 1, 2)
	checkActions(t, upTo(1024), cube(1, 0), 0, 1, 2)
	checkActions(t, jacobyUpTo(1024), cube(1, 0), 0, 1, 2)
	checkActions(t, impl.CubeRules{Most: 8, Beavers: true, Jacoby: true}, cube(1, 0), 0, 1, 2, 3, 4)
}

func TestExamplesOfOutcomes(t *testing.T) {
	r := beaversUpTo(1024)
	checkOutcome(t, r, cube(1, 0), impl.CubeRoll, outcome{cube(1, 0), 0})
	checkOutcome(t, r, cube(1, 0), impl.CubeTake, outcome{cube(2, 2), 0})
	checkOutcome(t, r, cube(1, 0), impl.CubePass, outcome{cube(0, 0), 1})
	checkOutcome(t, r, cube(1, 0), impl.CubeBeaver, outcome{cube(4, 2), 0})
	checkOutcome(t, r, cube(1, 0), impl.CubeRaccoon, outcome{cube(8, 2), 0})
	checkOutcome(t, r, cube(2, 1), impl.CubeRoll, outcome{cube(2, 1), 0})
	checkOutcome(t, r, cube(2, 2), impl.CubeRoll, outcome{cube(2, 2), 0})
	checkOutcome(t, r, cube(2, 1), impl.CubeTake, outcome{cube(4, 2), 0})
	checkOutcome(t, r, cube(2, 1), impl.CubeBeaver, outcome{cube(8, 2), 0})
	checkOutcome(t, r, cube(64, 1), impl.CubeRaccoon, outcome{cube(512, 2), 0})
	checkOutcome(t, r, cube(128, 1), impl.CubeRaccoon, outcome{cube(1024, 2), 0})
	checkOutcome(t, r, cube(256, 1), impl.CubeBeaver, outcome{cube(1024, 2), 0})
	checkOutcome(t, r, cube(512, 1), impl.CubeTake, outcome{cube(1024, 2), 0})
	checkOutcome(t, r, cube(512, 1), impl.CubePass, outcome{cube(0, 0), 512})
	checkOutcome(t, upTo(1), cube(1, 0), impl.CubeRoll, outcome{cube(1, 0), 0})
	refuseAction(t, upTo(1), cube(1, 0), impl.CubePass, impl.ErrRange)
	refuseAction(t, r, cube(1024, 1), impl.CubeTake, impl.ErrRange)
	refuseAction(t, r, cube(1024, 1), impl.CubePass, impl.ErrRange)
	refuseAction(t, r, cube(4, 2), impl.CubePass, impl.ErrRange)
	refuseAction(t, r, cube(512, 1), impl.CubeBeaver, impl.ErrRange)
	refuseAction(t, r, cube(256, 1), impl.CubeRaccoon, impl.ErrRange)
	refuseAction(t, upTo(1024), cube(1, 0), impl.CubeBeaver, impl.ErrRange)
	refuseAction(t, upTo(1024), cube(1, 0), impl.CubeRaccoon, impl.ErrRange)
}

// TestActionsLeadToValidCubes checks the second part of promise 16.
func TestActionsLeadToValidCubes(t *testing.T) {
	for _, r := range allCubeRules() {
		for _, c := range cubesUpTo(r.Most) {
			for _, action := range impl.CubeActions(r, c) {
				next, points, code := impl.AfterAction(r, c, action)
				if code != impl.ErrNone || impl.IsCube(r, next) == (action == impl.CubePass) || (points > 0) != (action == impl.CubePass) {
					t.Errorf("%v: %v becomes %v after the action %d, with %d points, code %d", r, c, next, action, points, code)
				}
				if action != impl.CubeRoll && next.Owner == 1 {
					t.Errorf("%v: after doubling %v the player owns %v", r, c, next)
				}
			}
		}
	}
}

// TestBeaversAreTwoDoubles compares beavers and raccoons with doubles of cubes that the player is given
// back.
func TestBeaversAreTwoDoubles(t *testing.T) {
	for _, most := range cubeValues() {
		r := beaversUpTo(most)
		for _, c := range cubesUpTo(most) {
			next := c
			for i, action := range list(impl.CubeTake, impl.CubeBeaver, impl.CubeRaccoon) {
				taken, _, wantCode := impl.AfterAction(r, next, impl.CubeTake)
				if wantCode != impl.ErrNone {
					refuseAction(t, r, c, action, impl.ErrRange)
					break
				}
				checkOutcome(t, r, c, action, outcome{cube: taken})
				if taken.Value != c.Value<<(i+1) {
					t.Errorf("%v: %v becomes %v after %d doubles", r, c, taken, i+1)
				}
				next = impl.SwapCube(taken)
			}
		}
	}
}

// reachedCubes returns the cubes of all games, each seen by the player on roll.
func reachedCubes(r impl.CubeRules) map[impl.Cube]bool {
	reached := map[impl.Cube]bool{cube(1, 0): true}
	for work := []impl.Cube{cube(1, 0)}; len(work) > 0; work = work[1:] {
		for _, action := range impl.CubeActions(r, work[0]) {
			next, _, _ := impl.AfterAction(r, work[0], action)
			if next = impl.SwapCube(next); action != impl.CubePass && !reached[next] {
				reached[next] = true
				work = append(work, next)
			}
		}
	}
	return reached
}

// TestAllValidCubesAreReached plays on with every action, from the cube in the middle.
func TestAllValidCubesAreReached(t *testing.T) {
	for _, r := range allCubeRules() {
		want := map[impl.Cube]bool{}
		for _, c := range cubesUpTo(r.Most) {
			want[c] = true
		}
		if reached := reachedCubes(r); !maps.Equal(reached, want) {
			t.Errorf("%v: %v are reached, not %v", r, reached, want)
		}
	}
}

func checkPoints(t *testing.T, r impl.CubeRules, c impl.Cube, kind, want, wantCode int64) {
	t.Helper()
	if points, code := impl.GamePoints(r, c, kind); points != want || code != wantCode {
		t.Errorf("%v: %v has %d points for the kind %d, code %d, not %d, code %d", r, c, points, kind, code, want, wantCode)
	}
}

func TestPointsOfGames(t *testing.T) {
	for _, r := range allCubeRules() {
		for _, c := range cubesUpTo(r.Most) {
			want := list(c.Value, c.Value+c.Value, c.Value+c.Value+c.Value)
			if r.Jacoby && c == cube(1, 0) {
				want = list(1, 1, 1)
			}
			for i, points := range want {
				checkPoints(t, r, c, int64(i+1), points, impl.ErrNone)
			}
			for _, kind := range otherNumbers(1, 3) {
				checkPoints(t, r, c, kind, 0, impl.ErrRange)
			}
		}
	}
}

func TestExamplesOfPoints(t *testing.T) {
	checkPoints(t, upTo(1), cube(1, 0), 1, 1, impl.ErrNone)
	checkPoints(t, upTo(1), cube(1, 0), 2, 2, impl.ErrNone)
	checkPoints(t, upTo(1), cube(1, 0), 3, 3, impl.ErrNone)
	checkPoints(t, jacobyUpTo(1), cube(1, 0), 1, 1, impl.ErrNone)
	checkPoints(t, jacobyUpTo(1), cube(1, 0), 2, 1, impl.ErrNone)
	checkPoints(t, jacobyUpTo(64), cube(1, 0), 3, 1, impl.ErrNone)
	checkPoints(t, jacobyUpTo(64), cube(2, 1), 3, 6, impl.ErrNone)
	checkPoints(t, jacobyUpTo(64), cube(64, 2), 2, 128, impl.ErrNone)
	checkPoints(t, beaversUpTo(64), cube(16, 2), 1, 16, impl.ErrNone)
	checkPoints(t, upTo(1024), cube(1024, 1), 3, 3072, impl.ErrNone)
	checkPoints(t, jacobyUpTo(64), cube(1, 0), 0, 0, impl.ErrRange)
	checkPoints(t, jacobyUpTo(64), cube(1, 0), 4, 0, impl.ErrRange)
	checkPoints(t, upTo(64), cube(128, 1), 4, 0, impl.ErrInvalid)
}

// refuseCube checks what every function with rules returns, whatever else it is given.
func refuseCube(t *testing.T, r impl.CubeRules, c impl.Cube) {
	t.Helper()
	if impl.IsCube(r, c) {
		t.Errorf("%v: %v is valid", r, c)
	}
	checkActions(t, r, c)
	for _, n := range append(otherNumbers(0, 4), 0, 1, 2, 3, 4) {
		refuseAction(t, r, c, n, impl.ErrInvalid)
		checkPoints(t, r, c, n, 0, impl.ErrInvalid)
	}
}

func TestNoCubes(t *testing.T) {
	for _, r := range allCubeRules() {
		for _, c := range otherCubes(r.Most) {
			refuseCube(t, r, c)
		}
		for _, c := range cubesUpTo(1024) {
			if c.Value > r.Most {
				refuseCube(t, r, c)
			}
		}
	}
	for _, r := range invalidCubeRules() {
		for _, c := range append(cubesUpTo(1024), otherCubes(1024)...) {
			refuseCube(t, r, c)
		}
	}
}

func cubeTexts() map[string]impl.Cube {
	return map[string]impl.Cube{
		"1c": cube(1, 0),
		"2o": cube(2, 1), "4o": cube(4, 1), "8o": cube(8, 1), "16o": cube(16, 1), "32o": cube(32, 1), "64o": cube(64, 1),
		"128o": cube(128, 1), "256o": cube(256, 1), "512o": cube(512, 1), "1024o": cube(1024, 1),
		"2t": cube(2, 2), "4t": cube(4, 2), "8t": cube(8, 2), "16t": cube(16, 2), "32t": cube(32, 2), "64t": cube(64, 2),
		"128t": cube(128, 2), "256t": cube(256, 2), "512t": cube(512, 2), "1024t": cube(1024, 2),
	}
}

// TestTextsOfAllCubes checks the first part of promise 16.
func TestTextsOfAllCubes(t *testing.T) {
	texts := cubeTexts()
	if len(texts) != len(cubesUpTo(1024)) {
		t.Fatalf("%d texts", len(texts))
	}
	for text, c := range texts {
		if got := impl.CubeText(c); got != text {
			t.Errorf("%v has the text %q, not %q", c, got, text)
		}
		checkReadCube(t, texts, text)
	}
	for _, c := range cubesUpTo(1024) {
		if got, ok := impl.ReadCube(impl.CubeText(c)); !ok || got != c {
			t.Errorf("%v is read as %v, %t", c, got, ok)
		}
	}
}

// checkReadCube reads a text that may be none of a cube.
func checkReadCube(t *testing.T, texts map[string]impl.Cube, text string) {
	t.Helper()
	want, found := texts[text]
	if c, ok := impl.ReadCube(text); c != want || ok != found {
		t.Errorf("%.60q is read as %v, %t, not %v, %t", text, c, ok, want, found)
	}
}

func TestTextsOfNoCubes(t *testing.T) {
	valid := map[impl.Cube]bool{}
	for _, c := range cubesUpTo(1024) {
		valid[c] = true
	}
	check := func(c impl.Cube) {
		if text := impl.CubeText(c); text != "" && !valid[c] {
			t.Errorf("%v has the text %q", c, text)
		}
	}
	eachNumberNear(func(value int64) {
		for owner := int64(-3); owner <= 6; owner++ {
			check(cube(value, owner))
		}
	})
	for _, value := range append(cubeValues(), 0, -1, 3, 2048) {
		for _, owner := range otherNumbers(0, 2) {
			check(cube(value, owner))
		}
	}
}

func TestChangedCubeTexts(t *testing.T) {
	texts := cubeTexts()
	for text := range texts {
		eachChange(text, allBytes(), func(s string) { checkReadCube(t, texts, s) })
	}
}

// TestAllShortCubeTexts reads all texts of up to two bytes, and all of up to five of the bytes that
// matter.
func TestAllShortCubeTexts(t *testing.T) {
	texts := cubeTexts()
	checkReadCube(t, texts, "")
	for _, first := range []byte(allBytes()) {
		checkReadCube(t, texts, string([]byte{first}))
		for _, second := range []byte(allBytes()) {
			checkReadCube(t, texts, string([]byte{first, second}))
		}
	}
	bytes := "0124568cot-"
	for size := 3; size <= 5; size++ {
		eachList(size, 0, int64(len(bytes)-1), func(indices []int64) {
			text := make([]byte, size)
			for i, k := range indices {
				text[i] = bytes[k]
			}
			checkReadCube(t, texts, string(text))
		})
	}
}

func TestOtherCubeTexts(t *testing.T) {
	texts := cubeTexts()
	for _, text := range []string{
		"", "c", "o", "t", "1", "2", "1024", "0c", "0o", "-1c", "1o", "1t", "2c", "4c", "1024c", "3o", "6t", "1023o", "1025t", "2048o", "4096t",
		"01c", "001c", "02o", "01024t", "+1c", "+2o", "-2o", "-4t", " 2o", "2 o", "2o ", "2o\n", "\n2o", "2o\x00", "\x002o", "2\to", "o2", "c1",
		"2oo", "2ot", "2o2o", "2o/2t", "1co", "2O", "2T", "1C", "2.0o", "2e0o", "0x2o", "0b1c", "1_6o", "1,024o", "２o", "2ｏ", "2о", "2ò", "2o\xff",
		"4294967297c", "4294967298o", "18446744073709551617c", "18446744073709551618t", "9223372036854775808o", "-9223372036854775808o",
		strings.Repeat("0", 100000) + "2o", strings.Repeat("9", 100000), strings.Repeat("2o", 50000), "2" + strings.Repeat("o", 100000),
		"1" + strings.Repeat("0", 100000) + "t",
	} {
		checkReadCube(t, texts, text)
		if _, found := texts[text]; found {
			t.Errorf("%q is the text of a cube", text)
		}
	}
}

// TestActionsAreNew overwrites a list, and what lies behind it, and asks again.
func TestActionsAreNew(t *testing.T) {
	for _, r := range allCubeRules() {
		actions := impl.CubeActions(r, cube(1, 0))
		want := slices.Clone(actions)
		for i := range actions[:cap(actions)] {
			actions[:cap(actions)][i] = -9
		}
		if again := impl.CubeActions(r, cube(1, 0)); len(want) == 0 || !slices.Equal(again, want) {
			t.Errorf("%v: the actions %v, then %v", r, want, again)
		}
	}
}

// TestCubesAtTheSameTime asks for other cubes in between: nothing may remain from one call to another.
func TestCubesAtTheSameTime(t *testing.T) {
	var all sync.WaitGroup
	for _, most := range cubeValues() {
		all.Go(func() {
			for _, c := range cubesUpTo(most) {
				for _, r := range rulesWith(most) {
					checkActions(t, r, c, actionsByRule(r, c)...)
					checkOutcome(t, r, c, impl.CubeRoll, outcome{cube: c})
					checkPoints(t, r, c, 1, c.Value, impl.ErrNone)
				}
				text := fmt.Sprintf("%d%c", c.Value, "cot"[c.Owner])
				if got, ok := impl.ReadCube(text); got != c || !ok || impl.CubeText(c) != text {
					t.Errorf("%q is read as %v, %t, and written as %q", text, got, ok, impl.CubeText(c))
				}
			}
		})
	}
	all.Wait()
}
