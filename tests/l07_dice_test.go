package tests

import (
	"math"
	"math/big"
	"math/rand"
	"slices"
	"strings"
	"sync"
	"testing"

	"loop.example/g00885/impl"
)

const leastSeed, mostSeed = 1, 2147483646

// seedAfterByRule finds 48271 * x modulo 2147483647.
func seedAfterByRule(x int64) int64 {
	product := new(big.Int).Mul(big.NewInt(48271), big.NewInt(x))
	return product.Mod(product, big.NewInt(2147483647)).Int64()
}

func rollByRule(p, q int64) impl.Roll {
	if p < q {
		p, q = q, p
	}
	return roll(p, q)
}

// rolledByRule returns the roll from a seed and the seed that remains.
func rolledByRule(sides, x int64) (impl.Roll, int64) {
	y := seedAfterByRule(x)
	z := seedAfterByRule(y)
	return rollByRule(1+y%sides, 1+z%sides), z
}

// groupByRule returns a group of stratified rolls and the seed with which it ends.
func groupByRule(sides, seed int64) ([]impl.Roll, int64) {
	numbers := make([]int64, sides*sides)
	for k := range numbers {
		numbers[k] = int64(k)
	}
	for i := len(numbers) - 1; i >= 1; i-- {
		seed = seedAfterByRule(seed)
		k := int(seed % int64(i+1))
		numbers[i], numbers[k] = numbers[k], numbers[i]
	}
	var group []impl.Roll
	for _, k := range numbers {
		group = append(group, rollByRule(k/sides+1, k%sides+1))
	}
	return group, seed
}

// rollsText writes each roll as its two numbers.
func rollsText(rolls []impl.Roll) string {
	var words []string
	for _, r := range rolls {
		words = append(words, string([]byte{'0' + byte(r.A), '0' + byte(r.B)}))
	}
	return strings.Join(words, " ")
}

// diceVariants has for each number of sides the smallest and the largest variant.
func diceVariants() []impl.Variant {
	var variants []impl.Variant
	for sides := int64(1); sides <= 6; sides++ {
		variants = append(variants, variant(2, 1, 1, sides), variant(24, 15, 24, sides))
	}
	return variants
}

// someSeeds has the first and the last seeds, those near the powers of 2, and random ones.
func someSeeds(random int) []int64 {
	seeds := list(leastSeed, 2, 3, 4, 5, 6, 7, mostSeed-2, mostSeed-1, mostSeed)
	for power := int64(8); power < mostSeed; power *= 2 {
		seeds = append(seeds, power-1, power, power+1)
	}
	// The quotients of the modulus and the factor, where the product first exceeds the modulus.
	seeds = append(seeds, 44487, 44488, 44489, 48270, 48271, 48272)
	rnd := rand.New(rand.NewSource(7))
	for range random {
		seeds = append(seeds, 1+rnd.Int63n(mostSeed))
	}
	return seeds
}

func noSeeds() []int64 {
	return list(0, -1, -2, -48271, -mostSeed, -mostSeed-1, mostSeed+1, mostSeed+2, 2*mostSeed+2, 2*mostSeed+3,
		1<<32, 1<<32+1, math.MaxInt64-1, math.MaxInt64, math.MinInt64, math.MinInt64+1)
}

func TestLimitsOfDice(t *testing.T) {
	if limits := [2]int64{impl.MaxSeed, impl.MaxRolls}; limits != [2]int64{2147483646, 400} {
		t.Error(limits)
	}
}

func checkRoll(t *testing.T, v impl.Variant, r impl.Roll, weight, number int64) {
	t.Helper()
	if !impl.IsRoll(v, r) {
		t.Errorf("%v: %v is no roll", v, r)
	}
	if got := impl.RollWeight(v, r); got != weight {
		t.Errorf("%v: %v has the weight %d, not %d", v, r, got, weight)
	}
	if got := impl.RollNumber(v, r); got != number {
		t.Errorf("%v: %v has the number %d, not %d", v, r, got, number)
	}
}

func refuseRoll(t *testing.T, v impl.Variant, r impl.Roll) {
	t.Helper()
	if impl.IsRoll(v, r) {
		t.Errorf("%v: %v is a roll", v, r)
	}
	if weight := impl.RollWeight(v, r); weight != 0 {
		t.Errorf("%v: %v has the weight %d", v, r, weight)
	}
	if number := impl.RollNumber(v, r); number != -1 {
		t.Errorf("%v: %v has the number %d", v, r, number)
	}
}

func TestRollsOfAllVariants(t *testing.T) {
	eachVariant(func(v impl.Variant) {
		want := rollsByRule(v)
		if rolls := impl.AllRolls(v); !slices.Equal(rolls, want) {
			t.Errorf("%v: rolls %v, not %v", v, rolls, want)
		}
		for number, r := range want {
			weight := int64(2)
			if r.A == r.B {
				weight = 1
			}
			checkRoll(t, v, r, weight, int64(number))
		}
	})
}

func TestListedRolls(t *testing.T) {
	texts := [7]string{"", "11", "11 21 22", "11 21 22 31 32 33", "11 21 22 31 32 33 41 42 43 44",
		"11 21 22 31 32 33 41 42 43 44 51 52 53 54 55", "11 21 22 31 32 33 41 42 43 44 51 52 53 54 55 61 62 63 64 65 66"}
	for _, v := range diceVariants() {
		if text := rollsText(impl.AllRolls(v)); text != texts[v.Sides] {
			t.Errorf("%v: rolls %s", v, text)
		}
	}
}

func TestNumbersAndWeightsOfRolls(t *testing.T) {
	for _, v := range diceVariants() {
		rolls, sum := impl.AllRolls(v), int64(0)
		if n := int64(len(rolls)); n != impl.RollKinds(v) {
			t.Errorf("%v: %d rolls", v, n)
		}
		for number, r := range rolls {
			if got := impl.RollNumber(v, r); got != int64(number) {
				t.Errorf("%v: %v is at %d and has the number %d", v, r, number, got)
			}
			sum += impl.RollWeight(v, r)
		}
		if sum != impl.RollTotal(v) {
			t.Errorf("%v: the weights add up to %d", v, sum)
		}
	}
}

func TestExamplesOfRolls(t *testing.T) {
	full := impl.FullVariant()
	checkRoll(t, full, roll(1, 1), 1, 0)
	checkRoll(t, full, roll(2, 1), 2, 1)
	checkRoll(t, full, roll(2, 2), 1, 2)
	checkRoll(t, full, roll(3, 1), 2, 3)
	checkRoll(t, full, roll(6, 1), 2, 15)
	checkRoll(t, full, roll(6, 6), 1, 20)
	checkRoll(t, variant(4, 2, 2, 2), roll(2, 2), 1, 2)
	refuseRoll(t, full, roll(1, 3))
	refuseRoll(t, full, roll(7, 1))
	refuseRoll(t, variant(4, 2, 2, 2), roll(3, 1))
}

func TestOtherRolls(t *testing.T) {
	for _, v := range diceVariants() {
		for _, r := range strangeRolls(v.Sides) {
			refuseRoll(t, v, r)
		}
		for a := int64(-2); a <= 9; a++ {
			for b := int64(-2); b <= 9; b++ {
				isRoll := 1 <= b && b <= a && a <= v.Sides
				if got := impl.IsRoll(v, roll(a, b)); got != isRoll {
					t.Errorf("%v: {%d %d} is a roll: %t", v, a, b, got)
				}
				if !isRoll {
					refuseRoll(t, v, roll(a, b))
				}
			}
		}
	}
}

func TestSeedsAfterSeeds(t *testing.T) {
	seeds := someSeeds(100000)
	for x := int64(1); x <= 100000; x++ {
		seeds = append(seeds, x, mostSeed+1-x)
	}
	for _, x := range seeds {
		if got, want := impl.NextSeed(x), seedAfterByRule(x); got != want {
			t.Fatalf("the seed after %d is %d, not %d", x, got, want)
		}
	}
}

func TestExamplesOfSeeds(t *testing.T) {
	after := map[int64]int64{1: 48271, 2: 96542, 48271: 182605794, 44488: 2147480248, 1 << 30: 1073765959, mostSeed: 2147435376}
	for x, want := range after {
		if got := impl.NextSeed(x); got != want {
			t.Errorf("the seed after %d is %d, not %d", x, got, want)
		}
	}
	x := int64(1)
	for range 10000 {
		x = impl.NextSeed(x)
	}
	if x != 399268537 {
		t.Errorf("the seed 10000 after 1 is %d", x)
	}
}

func TestNoSeeds(t *testing.T) {
	for _, x := range noSeeds() {
		if got := impl.NextSeed(x); got != 0 {
			t.Errorf("the seed after %d is %d", x, got)
		}
	}
}

// TestSeedsDiffer checks that no seed in a long row returns, and that all of them are seeds.
func TestSeedsDiffer(t *testing.T) {
	seen := map[int64]bool{}
	x := int64(leastSeed)
	for range 100000 {
		if x < leastSeed || x > mostSeed || seen[x] {
			t.Fatalf("the seed %d after %d others", x, len(seen))
		}
		seen[x] = true
		x = impl.NextSeed(x)
	}
}

func TestRollsOfSeeds(t *testing.T) {
	for _, v := range diceVariants() {
		for _, x := range someSeeds(20000) {
			wantRoll, wantSeed := rolledByRule(v.Sides, x)
			r, seed, ok := impl.RollFrom(v, x)
			if !ok || r != wantRoll || seed != wantSeed {
				t.Fatalf("%v: %v from the seed %d, %d remains, %t; not %v, %d", v, r, x, seed, ok, wantRoll, wantSeed)
			}
			if !impl.IsRoll(v, r) || seed != impl.NextSeed(impl.NextSeed(x)) {
				t.Fatalf("%v: %v from the seed %d, %d remains", v, r, x, seed)
			}
		}
	}
}

// TestFacesOfSeeds rolls until both faces have been seen in every order.
func TestFacesOfSeeds(t *testing.T) {
	full := impl.FullVariant()
	rolls := map[int64]impl.Roll{}
	for x := int64(1); x <= 2000; x++ {
		y := seedAfterByRule(x)
		z := seedAfterByRule(y)
		rolls[10*(y%6)+z%6], _, _ = impl.RollFrom(full, x)
	}
	if len(rolls) != 36 {
		t.Fatal(len(rolls))
	}
	for faces, r := range rolls {
		if p, q := faces/10+1, faces%10+1; r != roll(max(p, q), min(p, q)) {
			t.Errorf("the roll of the faces %d and %d is %v", p, q, r)
		}
	}
}

func TestExamplesOfRollsOfSeeds(t *testing.T) {
	if r, seed, ok := impl.RollFrom(impl.FullVariant(), 1); !ok || r != roll(2, 1) || seed != 182605794 {
		t.Error(r, seed, ok)
	}
	// The faces of the seeds 48271 and 182605794 are 1 + 1 and 1 + 0, for dice with two sides too.
	if r, seed, ok := impl.RollFrom(variant(4, 2, 2, 2), 1); !ok || r != roll(2, 1) || seed != 182605794 {
		t.Error(r, seed, ok)
	}
	if r, seed, ok := impl.RollFrom(variant(4, 2, 2, 1), 1); !ok || r != roll(1, 1) || seed != 182605794 {
		t.Error(r, seed, ok)
	}
}

func refuseRolling(t *testing.T, v impl.Variant, seed int64) {
	t.Helper()
	if r, left, ok := impl.RollFrom(v, seed); ok || left != 0 || r != (impl.Roll{}) {
		t.Errorf("%v: %v from %d, %d remains, %t", v, r, seed, left, ok)
	}
}

// refuseRolls checks what both functions for lists of rolls return.
func refuseRolls(t *testing.T, v impl.Variant, seed, n, want int64) {
	t.Helper()
	if rolls, code := impl.RollsFrom(v, seed, n); code != want || len(rolls) != 0 {
		t.Errorf("%v: %d rolls from %d: %v, code %d, not %d", v, n, seed, rolls, code, want)
	}
	if rolls, code := impl.StratifiedRolls(v, seed, n); code != want || len(rolls) != 0 {
		t.Errorf("%v: %d stratified rolls from %d: %v, code %d, not %d", v, n, seed, rolls, code, want)
	}
}

func checkRolls(t *testing.T, v impl.Variant, seed int64, want []impl.Roll) {
	t.Helper()
	if rolls, code := impl.RollsFrom(v, seed, int64(len(want))); code != impl.ErrNone || !slices.Equal(rolls, want) {
		t.Fatalf("%v: rolls from %d: %v, code %d, not %v", v, seed, rolls, code, want)
	}
}

func checkStratified(t *testing.T, v impl.Variant, seed int64, want []impl.Roll) {
	t.Helper()
	if rolls, code := impl.StratifiedRolls(v, seed, int64(len(want))); code != impl.ErrNone || !slices.Equal(rolls, want) {
		t.Fatalf("%v: stratified rolls from %d: %v, code %d, not %v", v, seed, rolls, code, want)
	}
}

// rollsFromByRule returns MaxRolls rolls, one after the other.
func rollsFromByRule(sides, seed int64) []impl.Roll {
	rolls := make([]impl.Roll, 400)
	for i := range rolls {
		rolls[i], seed = rolledByRule(sides, seed)
	}
	return rolls
}

// stratifiedByRule returns MaxRolls rolls, group after group.
func stratifiedByRule(sides, seed int64) []impl.Roll {
	var rolls, group []impl.Roll
	for len(rolls) < 400 {
		group, seed = groupByRule(sides, seed)
		rolls = append(rolls, group...)
	}
	return rolls[:400]
}

func TestAllNumbersOfRolls(t *testing.T) {
	for _, v := range diceVariants() {
		for _, seed := range list(leastSeed, 7, 123456789, mostSeed) {
			rolls, stratified := rollsFromByRule(v.Sides, seed), stratifiedByRule(v.Sides, seed)
			for n := range 401 {
				checkRolls(t, v, seed, rolls[:n])
				checkStratified(t, v, seed, stratified[:n])
			}
		}
	}
}

func TestRollsOfManySeeds(t *testing.T) {
	for _, v := range diceVariants() {
		for _, seed := range someSeeds(50) {
			checkRolls(t, v, seed, rollsFromByRule(v.Sides, seed))
			checkStratified(t, v, seed, stratifiedByRule(v.Sides, seed))
		}
	}
}

// TestRollsFollowEachOther checks the list of rolls against the seeds that remain.
func TestRollsFollowEachOther(t *testing.T) {
	for _, v := range diceVariants() {
		for _, seed := range someSeeds(50) {
			var want []impl.Roll
			for x := seed; len(want) < 50; {
				r, left, ok := impl.RollFrom(v, x)
				if !ok {
					t.Fatalf("%v: no roll from %d", v, x)
				}
				want = append(want, r)
				x = left
			}
			checkRolls(t, v, seed, want)
		}
	}
}

// TestGroupsContainEachRollAsOftenAsItsWeight checks each whole group by itself.
func TestGroupsContainEachRollAsOftenAsItsWeight(t *testing.T) {
	for _, v := range diceVariants() {
		size := int(v.Sides * v.Sides)
		for _, seed := range someSeeds(200) {
			rolls, code := impl.StratifiedRolls(v, seed, impl.MaxRolls)
			if code != impl.ErrNone || len(rolls) != impl.MaxRolls {
				t.Fatalf("%v: %d rolls from %d, code %d", v, len(rolls), seed, code)
			}
			for begin := 0; begin+size <= len(rolls); begin += size {
				counts := map[impl.Roll]int64{}
				for _, r := range rolls[begin : begin+size] {
					counts[r]++
				}
				for _, r := range impl.AllRolls(v) {
					if counts[r] != impl.RollWeight(v, r) {
						t.Fatalf("%v: seed %d: %d times %v from %d on", v, seed, counts[r], r, begin)
					}
				}
			}
		}
	}
}

// TestGroupsFollowEachOther checks that the seed of the second group is the one that ended the
// first one: a list that begins with it has the same rolls.
func TestGroupsFollowEachOther(t *testing.T) {
	for _, v := range diceVariants() {
		size := int(v.Sides * v.Sides)
		for _, seed := range someSeeds(20) {
			left := seed
			for range size - 1 {
				left = impl.NextSeed(left)
			}
			rolls, code := impl.StratifiedRolls(v, seed, int64(3*size))
			if code != impl.ErrNone {
				t.Fatalf("%v: seed %d: code %d", v, seed, code)
			}
			checkStratified(t, v, left, rolls[size:])
		}
	}
}

func TestListsOfRolls(t *testing.T) {
	rolls := []struct {
		sides, seed int64
		text        string
	}{
		{6, 1, "21 21 62 66 66 62 44 44 63 64 61 63 54 11 64 43 41 54 54 66"},
		{6, 2147483646, "21 21 31 33 33 31 55 55 63 53 32 63 54 22 53 65 52 54 54 33"},
		{3, 12345, "21 32 31 21 32 31 32 22 32 33 31 31"},
		{1, 5, "11 11 11"},
	}
	for _, c := range rolls {
		got, code := impl.RollsFrom(variant(24, 15, 6, c.sides), c.seed, int64(len(c.text)+1)/3)
		if code != impl.ErrNone || rollsText(got) != c.text {
			t.Errorf("%v: %s, code %d", c, rollsText(got), code)
		}
	}
}

func TestListsOfStratifiedRolls(t *testing.T) {
	groups := []struct {
		sides, seed int64
		text        string
	}{
		{6, 7, "52 31 51 32 43 52 61 62 43 41 42 61 54 51 54 33 44 11 31 65 62 64 53 63 32 63 41 21 66 64 42 65 22 53 55 21 " +
			"32 43 52 66 21 31 51 61 41 64 33 65 32 42 65 54 41 63 62 61 62 43 31 42 54 11 63 53 21 64 44 22 55 53 51 52"},
		{3, 1, "11 33 32 21 31 21 32 31 22 22 21 11 21 31 33 31 32 32"},
		{2, 2147483646, "22 21 21 11 21 22 11 21 21 11 22 21"},
		{1, 9, "11 11 11 11"},
	}
	for _, c := range groups {
		got, code := impl.StratifiedRolls(variant(24, 15, 6, c.sides), c.seed, int64(len(c.text)+1)/3)
		if code != impl.ErrNone || rollsText(got) != c.text {
			t.Errorf("%v: %s, code %d", c, rollsText(got), code)
		}
	}
}

func TestNumbersOfRollsOutOfRange(t *testing.T) {
	for _, v := range diceVariants() {
		for _, seed := range list(leastSeed, 48271, mostSeed) {
			for _, n := range list(-1, -400, math.MinInt64) {
				refuseRolls(t, v, seed, n, impl.ErrRange)
			}
			for _, n := range list(401, 1<<32, 1<<32+1, math.MaxInt64) {
				refuseRolls(t, v, seed, n, impl.ErrLimit)
			}
		}
	}
}

// numbersOfRolls are numbers of rolls below, in and above their range.
func numbersOfRolls() []int64 {
	return list(math.MinInt64, -1, 0, 1, 36, 400, 401, math.MaxInt64)
}

func TestRollsOfNoSeeds(t *testing.T) {
	for _, v := range diceVariants() {
		for _, seed := range noSeeds() {
			refuseRolling(t, v, seed)
			for _, n := range numbersOfRolls() {
				refuseRolls(t, v, seed, n, impl.ErrRange)
			}
		}
	}
}

func TestDiceOfInvalidVariants(t *testing.T) {
	for _, v := range invalidVariants() {
		if rolls := impl.AllRolls(v); len(rolls) != 0 {
			t.Errorf("%v: rolls %v", v, rolls)
		}
		for a := int64(-1); a <= 7; a++ {
			for b := int64(-1); b <= 7; b++ {
				refuseRoll(t, v, roll(a, b))
			}
		}
		for _, seed := range append(noSeeds(), leastSeed, 48271, mostSeed) {
			refuseRolling(t, v, seed)
			for _, n := range numbersOfRolls() {
				refuseRolls(t, v, seed, n, impl.ErrInvalid)
			}
		}
	}
}

// TestEqualSeedsYieldEqualRolls rolls at the same time from the same and from other seeds: nothing
// may remain from one call to another.
func TestEqualSeedsYieldEqualRolls(t *testing.T) {
	full := impl.FullVariant()
	var all sync.WaitGroup
	for worker := range 8 {
		all.Go(func() {
			for seed := int64(1); seed <= 100; seed++ {
				impl.NextSeed(seed + int64(worker))
				first, second, left := impl.Roll{}, impl.Roll{}, int64(0)
				first, left, _ = impl.RollFrom(full, seed)
				second, _, _ = impl.RollFrom(full, left)
				rolls, _ := impl.RollsFrom(variant(2, 1, 1, 6), seed, 2)
				if !slices.Equal(rolls, []impl.Roll{first, second}) {
					t.Errorf("seed %d: %v, not %v and %v", seed, rolls, first, second)
				}
				group, _ := impl.StratifiedRolls(full, seed, 72)
				again, _ := impl.StratifiedRolls(variant(6, 3, 6, 6), seed, 72)
				if len(group) != 72 || !slices.Equal(group, again) {
					t.Errorf("seed %d: stratified rolls %v and %v", seed, group, again)
				}
			}
		})
	}
	all.Wait()
}

// TestRollsAreNew overwrites lists, and what lies behind them, and asks again.
func TestRollsAreNew(t *testing.T) {
	full := impl.FullVariant()
	lists := map[string]func() []impl.Roll{
		"all": func() []impl.Roll { return impl.AllRolls(full) },
		"from": func() []impl.Roll {
			rolls, _ := impl.RollsFrom(full, 7, 50)
			return rolls
		},
		"stratified": func() []impl.Roll {
			rolls, _ := impl.StratifiedRolls(full, 7, 50)
			return rolls
		},
	}
	for name, get := range lists {
		rolls := get()
		want := slices.Clone(rolls)
		for i := range rolls[:cap(rolls)] {
			rolls[:cap(rolls)][i] = roll(-9, -9)
		}
		if again := get(); len(want) == 0 || !slices.Equal(again, want) {
			t.Errorf("%s: %v, then %v", name, want, again)
		}
	}
}
