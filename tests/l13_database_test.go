package tests

import (
	"bytes"
	"fmt"
	"math"
	"math/big"
	"math/rand"
	"slices"
	"sync"
	"testing"

	"loop.example/g00885/impl"
)

// kinds are both kinds of databases.
func kinds() []int64 { return list(impl.KindRolls, impl.KindWins) }

// noKinds are near the kinds, equal to them in their last byte, or far from them.
func noKinds() []int64 {
	return append(strangeNumbers(), 0, 3, 4, -256, 256, 257, 258, 1<<8|impl.KindWins, 1<<32|impl.KindRolls, 1<<32|impl.KindWins)
}

// pairVariants have few enough positions for databases of pairs.
func pairVariants() []impl.Variant {
	return []impl.Variant{
		variant(2, 1, 1, 1), variant(2, 1, 1, 6), variant(2, 2, 2, 2), variant(2, 15, 1, 3), variant(3, 1, 3, 1), variant(4, 3, 3, 3), variant(5, 2, 4, 5), variant(6, 3, 3, 2),
		variant(6, 4, 3, 1), variant(6, 1, 6, 6), variant(24, 1, 24, 4), variant(24, 4, 3, 6), variant(24, 2, 7, 6), variant(24, 8, 2, 3), variant(8, 2, 8, 2), variant(24, 3, 4, 4),
	}
}

// rollVariants have few enough positions for databases of positions only.
func rollVariants() []impl.Variant {
	return []impl.Variant{variant(24, 9, 2, 6), variant(10, 4, 4, 6), variant(6, 3, 6, 3), variant(24, 5, 6, 6), variant(24, 4, 8, 2), variant(24, 2, 24, 3), variant(24, 8, 4, 5)}
}

// eachKind calls f for the variants with the kinds of databases that they have.
func eachKind(f func(v impl.Variant, kind int64)) {
	for _, v := range pairVariants() {
		f(v, impl.KindRolls)
		f(v, impl.KindWins)
	}
	for _, v := range rollVariants() {
		f(v, impl.KindRolls)
	}
}

func database(v impl.Variant, kind int64, entries ...impl.Exact) impl.Database {
	return impl.Database{Variant: v, Kind: kind, Entries: entries}
}

// databaseByRule returns the true database by the recursions in ratios.
func databaseByRule(v impl.Variant, kind int64) (impl.Database, int64) {
	s := solveRaces(v)
	d := database(v, kind)
	for own, x := range s.list {
		if kind == impl.KindRolls {
			number, code := s.wanted(x.expected, x.expectedKnown)
			if code != impl.ErrNone {
				return impl.Database{}, code
			}
			d.Entries = append(d.Entries, number)
			continue
		}
		for other := range s.list {
			win := ratio(0, 1)
			if own+other > 0 {
				win = s.win(own, other)
			}
			number, code := s.exactOf(win)
			if code != impl.ErrNone {
				return impl.Database{}, code
			}
			d.Entries = append(d.Entries, number)
		}
	}
	return d, impl.ErrNone
}

// entriesByRule returns how many entries a database has, or -1 if there would be too many positions or
// entries.
func entriesByRule(v impl.Variant, kind int64) int64 {
	n := countByRule(v)
	switch {
	case n > 500 || kind == impl.KindWins && n > 50:
		return -1
	case kind == impl.KindWins:
		return n * n
	default:
		return n
	}
}

func isVariantByRule(v impl.Variant) bool {
	return v.Points >= 2 && v.Points <= 24 && v.Checkers >= 1 && v.Checkers <= 15 && v.Home >= 1 && v.Home <= v.Points && v.Sides >= 1 && v.Sides <= 6
}

func isDatabaseByRule(d impl.Database) bool {
	if !isVariantByRule(d.Variant) || d.Kind != 1 && d.Kind != 2 {
		return false
	}
	if int64(len(d.Entries)) != entriesByRule(d.Variant, d.Kind) {
		return false
	}
	return !slices.ContainsFunc(d.Entries, func(x impl.Exact) bool { return !isExactByRule(d.Variant.Sides, x) })
}

func sameDatabase(d, e impl.Database) bool {
	return d.Variant == e.Variant && d.Kind == e.Kind && slices.Equal(d.Entries, e.Entries)
}

func isZeroDatabase(d impl.Database) bool {
	return d.Variant == impl.Variant{} && d.Kind == 0 && len(d.Entries) == 0
}

// nameOf is short, unlike a text of all entries.
func nameOf(d impl.Database) string {
	return fmt.Sprint(d.Variant, " of the kind ", d.Kind, " with ", len(d.Entries), " entries")
}

func withEntry(d impl.Database, i int, x impl.Exact) impl.Database {
	d.Entries = slices.Clone(d.Entries)
	d.Entries[i] = x
	return d
}

// randomEntry is a small integer, one of the numbers given, or any number.
func randomEntry(rnd *rand.Rand, sides int64, given []impl.Exact) impl.Exact {
	switch rnd.Intn(4) {
	case 0:
		return exact(rnd.Int63n(5)-2, 0)
	case 1:
		return given[rnd.Intn(len(given))]
	default:
		return randomExact(rnd, sides)
	}
}

// randomDatabase has any entries of the right form.
func randomDatabase(rnd *rand.Rand, v impl.Variant, kind int64) impl.Database {
	d := database(v, kind)
	given := exactsOf(v.Sides)
	for range entriesByRule(v, kind) {
		d.Entries = append(d.Entries, randomEntry(rnd, v.Sides, given))
	}
	return d
}

func trueDatabase(t *testing.T, v impl.Variant, kind int64) impl.Database {
	t.Helper()
	d, code := impl.BuildDatabase(v, kind)
	if code != impl.ErrNone || !isDatabaseByRule(d) {
		t.Fatalf("%s, code %d, not of %v and the kind %d", nameOf(d), code, v, kind)
	}
	return d
}

func refuseBuild(t *testing.T, v impl.Variant, kind, want int64) {
	t.Helper()
	if d, code := impl.BuildDatabase(v, kind); code != want || !isZeroDatabase(d) {
		t.Errorf("%v: building the kind %d yields %s, code %d, not %d", v, kind, nameOf(d), code, want)
	}
}

func checkVerified(t *testing.T, d impl.Database, want int64) {
	t.Helper()
	wantCode := int64(impl.ErrState)
	if want < 0 {
		wantCode = impl.ErrNone
	}
	if at, code := impl.VerifyDatabase(d); at != want || code != wantCode {
		t.Errorf("%s: verifying yields %d, code %d, not %d, code %d", nameOf(d), at, code, want, wantCode)
	}
}

func checkEntry(t *testing.T, d impl.Database, own, other []int64, want impl.Exact, wantCode int64) {
	t.Helper()
	got, code := impl.EntryOf(d, own, other)
	checkExact(t, d.Variant, fmt.Sprint("entry of the kind ", d.Kind, " for ", own, " and ", other), got, code, want, wantCode)
}

func TestLimitsOfDatabases(t *testing.T) {
	if constants := [4]int64{impl.KindRolls, impl.KindWins, impl.MaxEntries, impl.MaxBytes}; constants != [4]int64{1, 2, 2500, 60000} {
		t.Error(constants)
	}
}

func TestTrueDatabases(t *testing.T) {
	eachKind(func(v impl.Variant, kind int64) {
		want, wantCode := databaseByRule(v, kind)
		if wantCode != impl.ErrNone {
			t.Fatal(v, kind, wantCode)
		}
		d, code := impl.BuildDatabase(v, kind)
		if code != impl.ErrNone || !sameDatabase(d, want) || !impl.IsDatabase(d) {
			t.Fatalf("%v: %s, code %d, is not the true one of the kind %d", v, nameOf(d), code, kind)
		}
		checkVerified(t, d, -1)
	})
}

// TestEntriesAreThoseOfTheTables compares the entries with the functions of chapters 11 and 12.
func TestEntriesAreThoseOfTheTables(t *testing.T) {
	for _, v := range []impl.Variant{variant(2, 2, 2, 2), variant(2, 15, 1, 3), variant(4, 3, 3, 3), variant(6, 1, 6, 6), variant(6, 4, 3, 1)} {
		rolls, wins := trueDatabase(t, v, impl.KindRolls), trueDatabase(t, v, impl.KindWins)
		positions := positionsOf(v)
		for a, p := range positions {
			want, code := impl.ExpectedRolls(v, p)
			checkExact(t, v, fmt.Sprint("entry ", a), rolls.Entries[a], code, want, impl.ErrNone)
			checkEntry(t, rolls, p, nil, want, impl.ErrNone)
			for b, q := range positions {
				win, code := impl.WinChance(v, p, q)
				if a+b == 0 {
					win, code = exact(0, 0), impl.ErrNone
				}
				checkExact(t, v, fmt.Sprint("entry of ", a, " and ", b), wins.Entries[a*len(positions)+b], code, win, impl.ErrNone)
				checkEntry(t, wins, p, q, win, impl.ErrNone)
			}
		}
	}
}

// TestExamplesOfDatabases has entries worked out by hand.
func TestExamplesOfDatabases(t *testing.T) {
	none, one, quarter, half, most := exact(0, 0), exact(1, 0), exact(1, 1), exact(2, 1), exact(3, 1)
	for _, d := range []impl.Database{
		database(variant(2, 1, 1, 1), impl.KindRolls, none, one),
		database(variant(2, 1, 1, 1), impl.KindWins, none, one, none, one),
		database(variant(6, 2, 2, 2), impl.KindRolls, none, one, one, one, one, exact(6, 1)),
		database(variant(6, 2, 2, 2), impl.KindWins,
			none, one, one, one, one, one,
			none, one, one, one, one, one,
			none, one, one, one, one, one,
			none, one, one, one, one, one,
			none, one, one, one, one, one,
			none, half, half, half, half, most),
		database(variant(2, 5, 1, 2), impl.KindRolls, none, one, one, exact(6, 1), exact(6, 1), exact(9, 1)),
		database(variant(3, 1, 3, 2), impl.KindWins,
			none, one, one, one,
			none, one, one, one,
			none, one, one, one,
			none, one, one, one),
		database(variant(4, 1, 4, 2), impl.KindRolls, none, one, one, one, exact(6, 1)),
		database(variant(4, 1, 4, 2), impl.KindWins,
			none, one, one, one, one,
			none, one, one, one, one,
			none, one, one, one, one,
			none, one, one, one, one,
			none, half, half, half, most),
	} {
		if got, code := impl.BuildDatabase(d.Variant, d.Kind); code != impl.ErrNone || !sameDatabase(got, d) {
			t.Errorf("%v, code %d, not %v", got, code, d)
		}
		checkVerified(t, d, -1)
		if d.Variant == variant(6, 2, 2, 2) {
			checkVerified(t, withEntry(d, len(d.Entries)-1, quarter), int64(len(d.Entries)-1))
		}
	}
}

// TestDatabasesWithoutValidExact has variants of which only a last number has no valid Exact, too, and
// some that are next to them and have none of this kind.
func TestDatabasesWithoutValidExact(t *testing.T) {
	codes := map[[2]int64]int{}
	for _, c := range []struct {
		v     impl.Variant
		kinds []int64
	}{
		{variant(24, 1, 15, 6), kinds()}, {variant(24, 1, 16, 6), kinds()}, {variant(24, 1, 24, 6), kinds()}, {variant(24, 1, 24, 5), kinds()}, {variant(24, 2, 7, 6), kinds()}, {variant(24, 2, 8, 6), kinds()},
		{variant(24, 8, 2, 5), kinds()}, {variant(24, 8, 2, 4), kinds()}, {variant(24, 8, 2, 6), kinds()}, {variant(24, 7, 2, 6), kinds()},
		{variant(24, 12, 3, 5), kinds()[:1]}, {variant(24, 12, 3, 6), kinds()[:1]}, {variant(24, 3, 12, 5), kinds()[:1]}, {variant(8, 4, 8, 6), kinds()[:1]}, {variant(24, 8, 4, 6), kinds()[:1]},
		{variant(17, 2, 17, 6), kinds()[:1]}, {variant(16, 2, 16, 6), kinds()[:1]}, {variant(24, 2, 19, 5), kinds()[:1]}, {variant(24, 2, 18, 5), kinds()[:1]},
	} {
		for _, kind := range c.kinds {
			want, wantCode := databaseByRule(c.v, kind)
			codes[[2]int64{kind, wantCode}]++
			if wantCode != impl.ErrNone {
				refuseBuild(t, c.v, kind, wantCode)
				continue
			}
			if d, code := impl.BuildDatabase(c.v, kind); code != impl.ErrNone || !sameDatabase(d, want) {
				t.Errorf("%v: %s, code %d, is not the true one of the kind %d", c.v, nameOf(d), code, kind)
			}
		}
	}
	for _, kind := range kinds() {
		for _, code := range list(impl.ErrNone, impl.ErrLimit) {
			if codes[[2]int64{kind, code}] < 3 {
				t.Error(codes)
			}
		}
	}
}

// TestSizesOfDatabases has all numbers of home points and checkers, with dice of 1 side, whose numbers
// are integers, up to the limits and beyond.
func TestSizesOfDatabases(t *testing.T) {
	sizes := map[int64]bool{}
	for home := int64(1); home <= 24; home++ {
		for checkers := int64(1); checkers <= 15; checkers++ {
			v := variant(max(2, home), checkers, home, 1)
			for _, kind := range kinds() {
				if entriesByRule(v, kind) < 0 {
					refuseBuild(t, v, kind, impl.ErrLimit)
					n := min(countByRule(v), 1000)
					if kind == impl.KindWins {
						n *= min(n, 60)
					}
					refuseDatabase(t, database(v, kind, make([]impl.Exact, n)...))
					continue
				}
				sizes[entriesByRule(v, kind)] = true
				d := trueDatabase(t, v, kind)
				checkVerified(t, d, -1)
				checkEntry(t, d, make([]int64, home), make([]int64, home), exact(0, 0), impl.ErrNone)
			}
		}
	}
	for _, size := range list(2, 495, 45*45) { // the least one, and the greatest ones of both kinds
		if !sizes[size] {
			t.Error(size)
		}
	}
}

// refuseDatabase checks what all functions return for a database that does not have the right form.
func refuseDatabase(t *testing.T, d impl.Database) {
	t.Helper()
	if impl.IsDatabase(d) {
		t.Errorf("%s has the right form", nameOf(d))
	}
	for _, size := range []int64{0, 1, 2, d.Variant.Home} {
		if size >= 0 && size <= 24 {
			checkEntry(t, d, make([]int64, size), make([]int64, size), impl.Exact{}, impl.ErrInvalid)
			checkEntry(t, d, slices.Repeat(list(-1), int(size)), nil, impl.Exact{}, impl.ErrInvalid)
		}
	}
	if at, code := impl.VerifyDatabase(d); at != -1 || code != impl.ErrInvalid {
		t.Errorf("%s: verifying yields %d, code %d", nameOf(d), at, code)
	}
	if b, code := impl.EncodeDatabase(d); len(b) != 0 || code != impl.ErrInvalid {
		t.Errorf("%s: encoding yields %v, code %d", nameOf(d), b, code)
	}
}

func TestDatabasesOfInvalidVariants(t *testing.T) {
	for _, v := range invalidVariants() {
		for _, kind := range append(noKinds(), kinds()...) {
			refuseBuild(t, v, kind, impl.ErrInvalid)
			for _, size := range []int{0, 1, 2, 4, 6, 36, 495} {
				refuseDatabase(t, database(v, kind, make([]impl.Exact, size)...))
			}
		}
	}
	refuseDatabase(t, impl.Database{})
}

// TestDatabasesOfNoKind has variants with too many positions, too, which are looked at later.
func TestDatabasesOfNoKind(t *testing.T) {
	for _, v := range slices.Concat(pairVariants(), rollVariants(), hugeTables()) {
		for _, kind := range noKinds() {
			refuseBuild(t, v, kind, impl.ErrRange)
			for _, size := range list(0, 1, countByRule(v), countByRule(v)*countByRule(v)) {
				if size <= 2500 {
					refuseDatabase(t, database(v, kind, make([]impl.Exact, size)...))
				}
			}
		}
	}
}

func TestTooManyEntries(t *testing.T) {
	for _, v := range hugeTables() {
		refuseBuild(t, v, impl.KindRolls, impl.ErrLimit)
		refuseBuild(t, v, impl.KindWins, impl.ErrLimit)
		for _, kind := range kinds() {
			for _, size := range list(0, 1, 500, 501, 2500, 2501, min(countByRule(v), 60000)) {
				refuseDatabase(t, database(v, kind, make([]impl.Exact, size)...))
			}
		}
	}
	for _, v := range rollVariants() {
		if n := countByRule(v); n > 50 {
			refuseBuild(t, v, impl.KindWins, impl.ErrLimit)
			for _, size := range list(0, n, n*n, 2500) {
				refuseDatabase(t, database(v, impl.KindWins, make([]impl.Exact, size)...))
			}
		}
	}
}

func TestNumbersOfEntries(t *testing.T) {
	eachKind(func(v impl.Variant, kind int64) {
		n := entriesByRule(v, kind)
		for _, size := range list(0, 1, n-1, n+1, 2*n, n*n, countByRule(v), countByRule(v)*countByRule(v), 2500) {
			if size != n && size <= 10000 {
				refuseDatabase(t, database(v, kind, make([]impl.Exact, size)...))
			}
		}
		if !impl.IsDatabase(database(v, kind, make([]impl.Exact, n)...)) {
			t.Errorf("%v: %d zeros of the kind %d do not have the right form", v, n, kind)
		}
	})
}

// TestEntriesOutOfRange has invalid numbers in the first, in the last and in other places.
func TestEntriesOutOfRange(t *testing.T) {
	rnd := rand.New(rand.NewSource(41))
	for sides := int64(1); sides <= 6; sides++ {
		for _, kind := range kinds() {
			d := randomDatabase(rnd, variant(4, 2, 2, sides), kind)
			if !impl.IsDatabase(d) {
				t.Errorf("%v does not have the right form", d)
			}
			for _, x := range noExacts(sides) {
				for _, i := range []int{0, 1, len(d.Entries) / 2, len(d.Entries) - 1} {
					refuseDatabase(t, withEntry(d, i, x))
				}
			}
			for _, x := range exactsOf(sides) {
				for _, i := range []int{0, len(d.Entries) - 1} {
					if changed := withEntry(d, i, x); !impl.IsDatabase(changed) {
						t.Errorf("%v does not have the right form", changed)
					}
				}
			}
		}
	}
}

// TestEntriesOfPositions has entries that are not the true ones.
func TestEntriesOfPositions(t *testing.T) {
	rnd := rand.New(rand.NewSource(42))
	for _, v := range []impl.Variant{variant(2, 1, 1, 1), variant(2, 2, 2, 2), variant(2, 15, 1, 6), variant(4, 3, 3, 3), variant(24, 1, 24, 6), variant(24, 8, 2, 5), variant(24, 2, 8, 4)} {
		rolls, wins := randomDatabase(rnd, v, impl.KindRolls), randomDatabase(rnd, v, impl.KindWins)
		positions := positionsOf(v)
		wrong := append(noPositions(v), nil)
		for a, p := range positions {
			for b, q := range positions {
				checkEntry(t, rolls, p, q, rolls.Entries[a], impl.ErrNone)
				checkEntry(t, wins, p, q, wins.Entries[a*len(positions)+b], impl.ErrNone)
			}
			q := wrong[rnd.Intn(len(wrong))]
			checkEntry(t, rolls, p, q, rolls.Entries[a], impl.ErrNone)
			checkEntry(t, rolls, q, p, impl.Exact{}, impl.ErrRange)
			checkEntry(t, wins, p, q, impl.Exact{}, impl.ErrRange)
			checkEntry(t, wins, q, p, impl.Exact{}, impl.ErrRange)
		}
		for _, q := range wrong {
			p := positions[rnd.Intn(len(positions))]
			checkEntry(t, rolls, p, q, rolls.Entries[numberByRule(v, p)], impl.ErrNone)
			checkEntry(t, rolls, q, p, impl.Exact{}, impl.ErrRange)
			checkEntry(t, rolls, q, q, impl.Exact{}, impl.ErrRange)
			checkEntry(t, wins, p, q, impl.Exact{}, impl.ErrRange)
			checkEntry(t, wins, q, p, impl.Exact{}, impl.ErrRange)
			checkEntry(t, wins, q, q, impl.Exact{}, impl.ErrRange)
		}
	}
}

// wantedEntry returns what an entry must be by the others, or ErrLimit if a number has no valid Exact.
func wantedEntry(d impl.Database, i int) (impl.Exact, int64) {
	n := len(solve(d.Variant).list)
	switch {
	case i == 0 || d.Kind == impl.KindWins && i%n == 0:
		return exact(0, 0), impl.ErrNone
	case d.Kind == impl.KindWins && i < n:
		return exact(1, 0), impl.ErrNone
	case d.Kind == impl.KindWins:
		return wantedWin(d, i/n, i%n)
	default:
		return wantedRolls(d, i)
	}
}

func wantedRolls(d impl.Database, number int) (impl.Exact, int64) {
	s, sides := solve(d.Variant), d.Variant.Sides
	var values []impl.Exact
	for _, results := range s.list[number].resultsOfRolls {
		least := d.Entries[results[0]]
		for _, q := range results {
			if ratioOf(sides, d.Entries[q]).Cmp(ratioOf(sides, least)) < 0 {
				least = d.Entries[q]
			}
		}
		values = append(values, least)
	}
	mean, code := meanByRule(d.Variant, values)
	if code != impl.ErrNone {
		return impl.Exact{}, code
	}
	return sumByRule(sides, mean, exact(1, 0))
}

func wantedWin(d impl.Database, own, other int) (impl.Exact, int64) {
	s, sides := solve(d.Variant), d.Variant.Sides
	var values []impl.Exact
	for _, results := range s.list[own].resultsOfRolls {
		var all []impl.Exact
		for _, q := range results {
			x := d.Entries[other*len(s.list)+q]
			after, code := sumByRule(sides, exact(1, 0), exact(-x.Num, x.Depth))
			if code != impl.ErrNone {
				return impl.Exact{}, code
			}
			all = append(all, after)
		}
		values = append(values, slices.MaxFunc(all, func(x, y impl.Exact) int { return ratioOf(sides, x).Cmp(ratioOf(sides, y)) }))
	}
	return meanByRule(d.Variant, values)
}

// firstWrong returns the index of the first entry that is not right, or -1.
func firstWrong(d impl.Database) int64 {
	for i, x := range d.Entries {
		if want, code := wantedEntry(d, i); code != impl.ErrNone || x != want {
			return int64(i)
		}
	}
	return -1
}

// byPips returns the indices of entries so that each one comes after those that it is found from.
func byPips(d impl.Database) []int {
	list := solve(d.Variant).list
	pips := func(i int) int64 {
		if d.Kind == impl.KindRolls {
			return pipsByRule(list[i].p)
		}
		return pipsByRule(list[i/len(list)].p) + pipsByRule(list[i%len(list)].p)
	}
	indices := make([]int, len(d.Entries))
	for i := range indices {
		indices[i] = i
	}
	slices.SortStableFunc(indices, func(i, k int) int { return int(pips(i) - pips(k)) })
	return indices
}

// repaired returns a database in which the entries for which it holds are what they must be by the
// others, as far as there are such numbers.
func repaired(d impl.Database, holds func(i int) bool) impl.Database {
	d.Entries = slices.Clone(d.Entries)
	for _, i := range byPips(d) {
		if x, code := wantedEntry(d, i); code == impl.ErrNone && holds(i) {
			d.Entries[i] = x
		}
	}
	return d
}

// verifiedVariants have few positions, so that many databases of them can be verified.
func verifiedVariants() []impl.Variant {
	return []impl.Variant{variant(2, 1, 1, 1), variant(2, 1, 1, 2), variant(2, 2, 2, 2), variant(2, 5, 1, 3), variant(3, 1, 3, 1), variant(6, 1, 6, 6), variant(4, 3, 2, 3), variant(4, 2, 4, 2), variant(6, 3, 2, 1)}
}

// TestChangedEntries has true databases in which one entry has been changed.
func TestChangedEntries(t *testing.T) {
	rnd := rand.New(rand.NewSource(43))
	for _, v := range verifiedVariants() {
		for _, kind := range kinds() {
			d := trueDatabase(t, v, kind)
			for i, x := range d.Entries {
				next, _ := sumByRule(v.Sides, x, exact(1, greatestDepth(v.Sides)))
				for _, y := range exacts(next, exact(0, 0), exact(1, 0), exact(x.Num+1, x.Depth), exact(-x.Num, x.Depth), exact(mostNum, 0), exact(-mostNum, 0), randomExact(rnd, v.Sides)) {
					if y == x || !isExactByRule(v.Sides, y) {
						continue
					}
					changed := withEntry(d, i, y)
					want := firstWrong(changed)
					if want < 0 || want > int64(i) {
						t.Fatal(changed, want)
					}
					checkVerified(t, changed, want)
				}
			}
		}
	}
}

// TestRepairedEntries has databases with any entries, of which some, many or nearly all have been
// repaired, so that entries that are not true are right by the others.
func TestRepairedEntries(t *testing.T) {
	rnd := rand.New(rand.NewSource(44))
	late := 0
	for _, v := range verifiedVariants() {
		given := exactsOf(v.Sides)
		for _, kind := range kinds() {
			for range 60 {
				d, share := trueDatabase(t, v, kind), rnd.Float64()
				for range 1 + rnd.Intn(4) {
					d.Entries[rnd.Intn(len(d.Entries))] = randomEntry(rnd, v.Sides, given)
				}
				d = repaired(d, func(i int) bool { return rnd.Float64() < share })
				want := firstWrong(d)
				checkVerified(t, d, want)
				if want > int64(len(d.Entries)/2) {
					late++
				}
			}
		}
	}
	if late < 100 {
		t.Error(late)
	}
}

// TestWrongResultsWithoutCheckers has databases in which the entry of one position or pair without
// checkers is wrong, and all others follow from it: no other entry is found.
func TestWrongResultsWithoutCheckers(t *testing.T) {
	for _, v := range verifiedVariants() {
		n := len(solve(v).list)
		for _, x := range exacts(exact(1, 0), exact(-1, 0), exact(2, 0), exact(1, min(2, greatestDepth(v.Sides))), exact(-1000, 0)) {
			d := repaired(withEntry(trueDatabase(t, v, impl.KindRolls), 0, x), func(i int) bool { return i != 0 })
			checkVerified(t, d, 0)
			d = trueDatabase(t, v, impl.KindWins)
			for wrong, y := range d.Entries {
				if wrong >= n && wrong%n != 0 || y == x {
					continue
				}
				changed := repaired(withEntry(d, wrong, x), func(i int) bool { return i != wrong })
				if firstWrong(changed) != int64(wrong) {
					t.Fatal(changed, wrong)
				}
				checkVerified(t, changed, int64(wrong))
			}
		}
	}
}

// TestOnlyTrueDatabases has all databases of small variants whose entries are few numbers.
func TestOnlyTrueDatabases(t *testing.T) {
	few := exacts(exact(0, 0), exact(1, 0), exact(-1, 0), exact(2, 0), exact(2, 1), exact(1, 1), exact(6, 1))
	for _, c := range []struct {
		v       impl.Variant
		kind    int64
		numbers []impl.Exact
	}{
		{variant(2, 1, 1, 1), impl.KindWins, few[:4]}, {variant(2, 1, 1, 2), impl.KindWins, few}, {variant(3, 1, 1, 6), impl.KindWins, few}, {variant(2, 2, 1, 2), impl.KindRolls, few},
		{variant(2, 3, 1, 2), impl.KindRolls, few}, {variant(4, 1, 4, 2), impl.KindRolls, append(few[:4:4], exact(6, 1))}, {variant(24, 2, 2, 1), impl.KindRolls, few[:4]},
	} {
		want, verified := trueDatabase(t, c.v, c.kind), 0
		eachList(len(want.Entries), 0, int64(len(c.numbers)-1), func(chosen []int64) {
			d := database(c.v, c.kind)
			for _, i := range chosen {
				d.Entries = append(d.Entries, c.numbers[i])
			}
			at, code := impl.VerifyDatabase(d)
			if isTrue := at == -1 && code == impl.ErrNone; isTrue != sameDatabase(d, want) || !isTrue && (at < 0 || code != impl.ErrState) {
				t.Errorf("%v: verifying yields %d, code %d", d, at, code)
			} else if isTrue {
				verified++
			}
		})
		if verified != 1 {
			t.Error(c.v, c.kind, verified)
		}
	}
}

// TestVerifyingWithoutValidExact has variants of which a number has no valid Exact: no database of it
// is true, and the entry of this number is never right.
func TestVerifyingWithoutValidExact(t *testing.T) {
	for _, c := range []struct {
		v    impl.Variant
		kind int64
	}{{variant(24, 1, 16, 6), impl.KindWins}, {variant(24, 2, 8, 6), impl.KindWins}, {variant(24, 12, 3, 5), impl.KindRolls}} {
		d := database(c.v, c.kind, make([]impl.Exact, entriesByRule(c.v, c.kind))...)
		d = repaired(d, func(i int) bool { return true })
		want := firstWrong(d)
		if want < int64(len(d.Entries))/2 {
			t.Fatal(want)
		}
		for _, x := range exacts(exact(0, 0), exact(1, 0), exact(1, 9), exact(7, 9)) {
			checkVerified(t, withEntry(d, int(want), x), want)
		}
	}
}

// TestLimitsOfVerifying has wrong entries behind the first pair that needs them, so that this pair is
// right by them or has no number.
func TestLimitsOfVerifying(t *testing.T) {
	two := variant(6, 2, 2, 2)
	great, scale := exact(1000000000001, 0), int64(1<<20) // the scale of the depth 10
	quarter, last := mostNum/4, int64(1<<48)
	for _, c := range []struct {
		v       impl.Variant
		entries map[int]impl.Exact
		want    int64
	}{
		// The entry 5, of 1 checker against 2, is 1 minus the entry 6 for every roll.
		{variant(2, 2, 1, 1), map[int]impl.Exact{5: exact(mostNum, 0), 6: exact(1-mostNum, 0)}, 6}, // there is no 1 more than the mean
		{variant(2, 2, 1, 1), map[int]impl.Exact{5: exact(mostNum, 0), 6: exact(-mostNum, 0)}, 5},
		{variant(2, 2, 1, 1), map[int]impl.Exact{5: exact(-mostNum, 0), 6: exact(-mostNum, 0)}, 5},
		{variant(2, 2, 1, 1), map[int]impl.Exact{5: exact(0, 0), 6: exact(-mostNum, 0)}, 5},
		{variant(2, 2, 1, 1), map[int]impl.Exact{5: exact(1-mostNum, 0), 6: exact(mostNum, 0)}, 6},
		// The sum of all rolls is 4 times the number.
		{variant(2, 2, 1, 2), map[int]impl.Exact{5: exact(quarter, 0), 6: exact(1-quarter, 0)}, 6},
		{variant(2, 2, 1, 2), map[int]impl.Exact{5: exact(quarter+1, 0), 6: exact(-quarter, 0)}, 5},
		{variant(2, 2, 1, 2), map[int]impl.Exact{5: exact(0, 0), 6: exact(-quarter, 0)}, 5},
		{variant(2, 2, 1, 2), map[int]impl.Exact{5: exact(-quarter, 0), 6: exact(quarter+1, 0)}, 6},
		{variant(2, 2, 1, 2), map[int]impl.Exact{5: exact(-quarter-1, 0), 6: exact(quarter+2, 0)}, 5},
		{variant(2, 2, 1, 2), map[int]impl.Exact{5: exact(last-1, 24), 6: exact(1, 24)}, 6},
		// The entry 19, of 3 checkers against 4, is the mean of 1 minus the entries 20 and 21.
		{variant(2, 4, 1, 2), map[int]impl.Exact{19: exact(last-1, 24), 21: exact(2, 24)}, 21},
		{variant(2, 4, 1, 2), map[int]impl.Exact{19: exact(last-1, 24), 21: exact(1, 24)}, 19}, // it has the depth 25
		{variant(2, 4, 1, 2), map[int]impl.Exact{19: exact(0, 0), 21: exact(1, 24)}, 19},
		// The entry 29, of {1, 1} against {0, 2}, is 1 minus the entry 30, but needs 1 minus the entry 31, too.
		{two, map[int]impl.Exact{11: great, 17: great, 23: great, 29: great, 30: exact(1-great.Num, 0), 31: exact(1+scale-mostNum, 10)}, 30},
		{two, map[int]impl.Exact{11: great, 17: great, 23: great, 29: great, 30: exact(1-great.Num, 0), 31: exact(1-mostNum, 10)}, 29},
		{two, map[int]impl.Exact{11: great, 17: great, 23: great, 29: exact(0, 0), 30: exact(1-great.Num, 0), 31: exact(1-mostNum, 10)}, 29},
	} {
		d := trueDatabase(t, c.v, impl.KindWins)
		for i, x := range c.entries {
			d.Entries[i] = x
		}
		if !isDatabaseByRule(d) || firstWrong(d) != c.want {
			t.Fatal(d, firstWrong(d), c.want)
		}
		checkVerified(t, d, c.want)
	}
}

// compressedByRule writes a run whenever the next byte differs or the run has 255 bytes.
func compressedByRule(b []byte) []byte {
	var runs []byte
	for i := range b {
		last := len(runs) - 2
		if last >= 0 && runs[last+1] == b[i] && runs[last] < 255 {
			runs[last]++
			continue
		}
		runs = append(runs, 1, b[i])
	}
	return runs
}

// expandedByRule checks each rule of compressed blocks by itself.
func expandedByRule(b []byte) ([]byte, bool) {
	var block []byte
	if len(b)%2 == 1 {
		return nil, false
	}
	for i := 0; i < len(b); i += 2 {
		if b[i] == 0 || i > 0 && b[i-1] == b[i+1] && b[i-2] != 255 {
			return nil, false
		}
		for range b[i] {
			block = append(block, b[i+1])
		}
	}
	return block, len(block) <= 60000
}

func checkCompressed(t *testing.T, b, want []byte) {
	t.Helper()
	if got, code := impl.CompressBytes(b); code != impl.ErrNone || !bytes.Equal(got, want) {
		t.Errorf("compressing %s yields %s, code %d, not %s", short(b), short(got), code, short(want))
	}
	checkExpanded(t, want, b)
}

func checkExpanded(t *testing.T, b, want []byte) {
	t.Helper()
	if got, code := impl.ExpandBytes(b); code != impl.ErrNone || !bytes.Equal(got, want) {
		t.Errorf("expanding %s yields %s, code %d, not %s", short(b), short(got), code, short(want))
	}
}

func refuseExpanding(t *testing.T, b []byte, want int64) {
	t.Helper()
	if got, code := impl.ExpandBytes(b); code != want || len(got) != 0 {
		t.Errorf("expanding %s yields %s, code %d, not %d", short(b), short(got), code, want)
	}
}

func short(b []byte) string {
	return fmt.Sprint(len(b), " bytes ", b[:min(len(b), 20)])
}

func run(n int, c byte) []byte { return bytes.Repeat([]byte{c}, n) }

func TestExamplesOfCompressedBytes(t *testing.T) {
	for _, c := range []struct{ b, want []byte }{
		{nil, nil}, {[]byte{}, nil}, {[]byte{0}, []byte{1, 0}}, {[]byte{7, 7, 7, 0}, []byte{3, 7, 1, 0}}, {[]byte{1, 2, 1}, []byte{1, 1, 1, 2, 1, 1}},
		{[]byte{255, 255, 0, 0, 0}, []byte{2, 255, 3, 0}}, {[]byte("aab"), []byte{2, 'a', 1, 'b'}}, {run(2, 128), []byte{2, 128}},
		{run(254, 5), []byte{254, 5}}, {run(255, 5), []byte{255, 5}}, {run(256, 5), []byte{255, 5, 1, 5}}, {run(510, 255), []byte{255, 255, 255, 255}}, {run(511, 0), []byte{255, 0, 255, 0, 1, 0}},
		{slices.Concat(run(255, 1), run(255, 2), run(1, 1)), []byte{255, 1, 255, 2, 1, 1}}, {slices.Concat(run(256, 1), run(255, 2)), []byte{255, 1, 1, 1, 255, 2}},
	} {
		checkCompressed(t, c.b, c.want)
	}
}

// TestCompressedBytes has random blocks of runs of many lengths.
func TestCompressedBytes(t *testing.T) {
	rnd := rand.New(rand.NewSource(45))
	for range 3000 {
		var b []byte
		for range rnd.Intn(12) {
			b = append(b, run([]int{1, 1, 2, 3, 254, 255, 256, 510, 511, rnd.Intn(800)}[rnd.Intn(10)], byte(rnd.Intn(3)*127))...)
		}
		checkCompressed(t, b, compressedByRule(b))
	}
	for range 300 {
		b := make([]byte, rnd.Intn(2000))
		rnd.Read(b)
		checkCompressed(t, b, compressedByRule(b))
	}
}

// TestLimitsOfCompressedBytes has blocks that compress well or not at all.
func TestLimitsOfCompressedBytes(t *testing.T) {
	varied := make([]byte, 60001)
	for i := range varied {
		varied[i] = byte(i % 7)
	}
	for _, b := range [][]byte{varied, run(60001, 0), run(60001, 255)} {
		for _, size := range []int{59999, 60000} {
			checkCompressed(t, b[:size], compressedByRule(b[:size]))
		}
		if got, code := impl.CompressBytes(b); code != impl.ErrLimit || len(got) != 0 {
			t.Error(short(got), code)
		}
		compressed := compressedByRule(b)
		if len(compressed) <= 120000 {
			refuseExpanding(t, compressed, impl.ErrSyntax)
		} else {
			refuseExpanding(t, compressed, impl.ErrLimit)
		}
	}
	if got, code := impl.CompressBytes(run(1<<20, 1)); code != impl.ErrLimit || len(got) != 0 {
		t.Error(short(got), code)
	}
}

// TestLimitsOfExpandedBytes has runs whose lengths add up to the limit of a block and beyond, and as
// many bytes as are allowed, or more, for which it does not matter what they are.
func TestLimitsOfExpandedBytes(t *testing.T) {
	longest := bytes.Repeat([]byte{255, 9}, 235) // 59925 bytes
	checkExpanded(t, slices.Concat(longest, []byte{75, 9}), run(60000, 9))
	checkExpanded(t, slices.Concat(longest, []byte{74, 9, 1, 8}), append(run(59999, 9), 8))
	for _, end := range [][]byte{{76, 9}, {75, 9, 1, 8}, {74, 9, 2, 8}, {255, 9}, {255, 8}, {255, 9, 0, 9}} {
		refuseExpanding(t, slices.Concat(longest, end), impl.ErrSyntax)
	}
	for _, c := range []struct {
		size int
		want int64
	}{{119999, impl.ErrSyntax}, {120000, impl.ErrSyntax}, {120001, impl.ErrLimit}, {120002, impl.ErrLimit}, {1 << 20, impl.ErrLimit}} {
		for _, part := range [][]byte{{255, 9}, {0}, {0, 9}, {1, 9}, {255, 9, 255, 8}} {
			refuseExpanding(t, bytes.Repeat(part, c.size)[:c.size], c.want)
		}
	}
	alternating := bytes.Repeat([]byte{1, 9, 1, 8}, 30001)
	checkExpanded(t, alternating[:120000], bytes.Repeat([]byte{9, 8}, 30000))
	checkExpanded(t, alternating[:119998], bytes.Repeat([]byte{9, 8}, 30000)[:59999])
	refuseExpanding(t, alternating[:119999], impl.ErrSyntax)
	refuseExpanding(t, alternating[:120001], impl.ErrLimit)
	refuseExpanding(t, alternating[:120002], impl.ErrLimit)
}

// TestAllShortCompressedBytes has all lists of up to 6 of some bytes: the block is the one whose
// compressed bytes they are.
func TestAllShortCompressedBytes(t *testing.T) {
	some := []byte{0, 1, 2, 254, 255}
	for size := range 7 {
		found := 0
		eachList(size, 0, int64(len(some)-1), func(chosen []int64) {
			var b []byte
			for _, i := range chosen {
				b = append(b, some[i])
			}
			want, ok := expandedByRule(b)
			if !ok {
				refuseExpanding(t, b, impl.ErrSyntax)
				return
			}
			found++
			checkCompressed(t, want, b)
		})
		if (found > 0) != (size%2 == 0) {
			t.Error(size, found)
		}
	}
}

// sumOfBytes returns the checksum as a sum of powers of 31, from the last byte on.
func sumOfBytes(b []byte) int64 {
	sum, power := int64(0), int64(1)
	for i := len(b) - 1; i >= 0; i-- {
		sum += (int64(b[i]) + 1) * power
		power = 31 * power % 65521
	}
	return (sum + power) % 65521
}

func TestCheckSums(t *testing.T) {
	for _, c := range []struct {
		b    []byte
		want int64
	}{
		{nil, 1}, {[]byte{}, 1}, {[]byte{0}, 32}, {[]byte{1}, 33}, {[]byte{255}, 287}, {[]byte{0, 0}, 993}, {[]byte{255, 255}, 9153}, {[]byte("BGD"), 96479 - 65521},
	} {
		if got := impl.CheckSum(c.b); got != c.want || sumOfBytes(c.b) != c.want {
			t.Errorf("the checksum of %v is %d, not %d", c.b, got, c.want)
		}
	}
	rnd := rand.New(rand.NewSource(46))
	for _, size := range []int{1, 2, 3, 4, 10, 100, 1000, 60000, 60001, 200000} {
		for _, b := range [][]byte{run(size, 0), run(size, 255), make([]byte, size)} {
			if size > 1000 {
				b = b[:min(len(b), 60001)]
			}
			rnd.Read(b[:len(b)/2])
			if got, want := impl.CheckSum(b), sumOfBytes(b); got != want {
				t.Errorf("the checksum of %s is %d, not %d", short(b), got, want)
			}
		}
	}
	if got, again := impl.CheckSum(run(1<<20, 255)), impl.CheckSum(run(1<<20, 255)); got != again || got < 0 || got > 65520 {
		t.Error(got, again)
	}
}

// signed appends the checksum.
func signed(b []byte) []byte {
	sum := sumOfBytes(b)
	return slices.Concat(b, []byte{byte(sum / 256), byte(sum % 256)})
}

// blockByRule has the bytes of entries.
func blockByRule(entries []impl.Exact) []byte {
	var b []byte
	for _, x := range entries {
		b = append(b, byte(x.Depth))
		n := new(big.Int).Mul(big.NewInt(2), big.NewInt(x.Num))
		if x.Num < 0 {
			n.Neg(n).Sub(n, big.NewInt(1))
		}
		text := n.Text(2)
		for len(text) > 7 {
			b = append(b, 128|bitsToByte(text[len(text)-7:]))
			text = text[:len(text)-7]
		}
		b = append(b, bitsToByte(text))
	}
	return b
}

func bitsToByte(text string) byte {
	c := byte(0)
	for _, bit := range text {
		c = 2*c + byte(bit-'0')
	}
	return c
}

func headByRule(v impl.Variant, kind int64) []byte {
	return []byte{66, 71, 68, 1, byte(v.Points), byte(v.Checkers), byte(v.Home), byte(v.Sides), byte(kind)}
}

func encodedByRule(d impl.Database) []byte {
	return signed(slices.Concat(headByRule(d.Variant, d.Kind), compressedByRule(blockByRule(d.Entries))))
}

// entryOfBytes returns the first entry of a block, and what remains.
func entryOfBytes(b []byte) (impl.Exact, []byte, bool) {
	end := 1
	for end < len(b) && b[end] >= 128 {
		end++
	}
	if end >= len(b) || end > 1 && b[end] == 0 {
		return impl.Exact{}, nil, false
	}
	n := new(big.Int)
	for i := end; i >= 1; i-- {
		n.Mul(n, big.NewInt(128)).Add(n, big.NewInt(int64(b[i]%128)))
	}
	num := new(big.Int).Rsh(n, 1)
	if n.Bit(0) == 1 {
		num.Neg(num).Sub(num, big.NewInt(1))
	}
	if !num.IsInt64() {
		return impl.Exact{}, nil, false
	}
	return exact(num.Int64(), int64(b[0])), b[end+1:], true
}

// decodedByRule checks each rule of encoded databases by itself.
func decodedByRule(b []byte) (impl.Database, int64, int64) {
	none := impl.Database{}
	if len(b) > 60000 {
		return none, 0, impl.ErrLimit
	}
	if len(b) < 11 || string(b[:4]) != "BGD\x01" {
		return none, 1, impl.ErrSyntax
	}
	if !bytes.Equal(signed(b[:len(b)-2]), b) {
		return none, 2, impl.ErrSyntax
	}
	block, ok := expandedByRule(b[9 : len(b)-2])
	if !ok {
		return none, 3, impl.ErrSyntax
	}
	d := database(variant(int64(b[4]), int64(b[5]), int64(b[6]), int64(b[7])), int64(b[8]))
	for len(block) > 0 {
		var x impl.Exact
		if x, block, ok = entryOfBytes(block); !ok {
			return none, 4, impl.ErrSyntax
		}
		d.Entries = append(d.Entries, x)
	}
	if !isDatabaseByRule(d) {
		return none, 4, impl.ErrSyntax
	}
	return d, 0, impl.ErrNone
}

func checkDecoded(t *testing.T, b []byte, want impl.Database, wantAt, wantCode int64) {
	t.Helper()
	if d, at, code := impl.DecodeDatabase(b); at != wantAt || code != wantCode || !sameDatabase(d, want) {
		t.Errorf("decoding %s yields %s, %d, code %d, not %s, %d, code %d", short(b), nameOf(d), at, code, nameOf(want), wantAt, wantCode)
	}
}

func refuseDecoding(t *testing.T, b []byte, wantAt int64) {
	t.Helper()
	checkDecoded(t, b, impl.Database{}, wantAt, impl.ErrSyntax)
}

func checkEncoded(t *testing.T, d impl.Database, want []byte) {
	t.Helper()
	if b, code := impl.EncodeDatabase(d); code != impl.ErrNone || !bytes.Equal(b, want) {
		t.Errorf("encoding %s yields %s, code %d, not %s", nameOf(d), short(b), code, short(want))
	}
	checkDecoded(t, want, d, 0, impl.ErrNone)
}

// TestDatabasesRecovered has true databases and others, also the largest ones, with long entries.
func TestDatabasesRecovered(t *testing.T) {
	rnd := rand.New(rand.NewSource(47))
	eachKind(func(v impl.Variant, kind int64) {
		d := trueDatabase(t, v, kind)
		checkEncoded(t, d, encodedByRule(d))
		for range 3 {
			d = randomDatabase(rnd, v, kind)
			checkEncoded(t, d, encodedByRule(d))
		}
		for _, x := range exacts(exact(0, 0), exact(mostNum, 0), exact(-mostNum, 0), exact(1-mostNum, greatestDepth(v.Sides))) {
			if isExactByRule(v.Sides, x) {
				d.Entries = slices.Repeat(exacts(x), len(d.Entries))
				checkEncoded(t, d, encodedByRule(d))
			}
		}
	})
	longest := database(variant(24, 2, 8, 2), impl.KindWins)
	for i := range int64(45 * 45) {
		longest.Entries = append(longest.Entries, exact(mostNum-1-2*i, 24-i%2))
	}
	b := encodedByRule(longest)
	if len(b) < 40000 {
		t.Error(len(b))
	}
	checkEncoded(t, longest, b)
}

// TestEncodedEntries has each number near the limits and near the sizes of groups by itself.
func TestEncodedEntries(t *testing.T) {
	for sides := int64(1); sides <= 6; sides++ {
		d := database(variant(2, 1, 1, sides), impl.KindRolls, make([]impl.Exact, 2)...)
		numbers := exactsOf(sides)
		for bit := range 60 {
			for n := int64(1)<<bit - 2; n <= int64(1)<<bit+2; n++ {
				numbers = append(numbers, exact(n, 0), exact(-n, 0), exact(n, greatestDepth(sides)), exact(-n, greatestDepth(sides)))
			}
		}
		for _, x := range numbers {
			if isExactByRule(sides, x) {
				for i := range 2 {
					changed := withEntry(d, i, x)
					checkEncoded(t, changed, encodedByRule(changed))
				}
			}
		}
	}
}

// TestExamplesOfEncodedDatabases has encodings worked out by hand.
func TestExamplesOfEncodedDatabases(t *testing.T) {
	for _, c := range []struct {
		d    impl.Database
		want []byte
	}{
		{database(variant(2, 1, 1, 1), impl.KindRolls, exact(0, 0), exact(1, 0)),
			[]byte{66, 71, 68, 1, 2, 1, 1, 1, 1, 3, 0, 1, 2, 38, 119}},
		{database(variant(24, 1, 1, 6), impl.KindRolls, exact(-1, 0), exact(64, 1)),
			[]byte{66, 71, 68, 1, 24, 1, 1, 6, 1, 1, 0, 2, 1, 1, 128, 1, 1, 71, 187}},
		{database(variant(2, 1, 1, 2), impl.KindWins, exact(-64, 0), exact(63, 0), exact(0, 0), exact(-8193, 24)),
			[]byte{66, 71, 68, 1, 2, 1, 1, 2, 2, 1, 0, 1, 127, 1, 0, 1, 126, 2, 0, 1, 24, 1, 129, 1, 128, 1, 1, 57, 108}},
		{database(variant(6, 2, 2, 2), impl.KindRolls, exact(0, 0), exact(1, 0), exact(1, 0), exact(1, 0), exact(1, 0), exact(6, 1)),
			[]byte{66, 71, 68, 1, 6, 2, 2, 2, 1, 3, 0, 1, 2, 1, 0, 1, 2, 1, 0, 1, 2, 1, 0, 1, 2, 1, 1, 1, 12, 135, 172}},
	} {
		checkEncoded(t, c.d, c.want)
	}
}

// TestChangedBytesAreFound changes each byte of encodings to each other value, or random ones of a
// long encoding.
func TestChangedBytesAreFound(t *testing.T) {
	refuseChanged := func(b []byte, i int, c byte) {
		t.Helper()
		if b[i] == c {
			return
		}
		changed := slices.Clone(b)
		changed[i] = c
		at := int64(2)
		if i < 4 {
			at = 1
		}
		refuseDecoding(t, changed, at)
	}
	for _, v := range []impl.Variant{variant(2, 1, 1, 1), variant(6, 2, 2, 2), variant(6, 1, 6, 6)} {
		for _, kind := range kinds() {
			b, _ := impl.EncodeDatabase(trueDatabase(t, v, kind))
			for i := range b {
				for c := range 256 {
					refuseChanged(b, i, byte(c))
				}
			}
		}
	}
	rnd := rand.New(rand.NewSource(48))
	b, _ := impl.EncodeDatabase(trueDatabase(t, variant(24, 4, 3, 6), impl.KindWins))
	for range 1000 {
		refuseChanged(b, rnd.Intn(len(b)), byte(rnd.Intn(256)))
	}
}

// withBlock has the head of a database and any bytes as its block.
func withBlock(d impl.Database, block []byte) []byte {
	return signed(slices.Concat(headByRule(d.Variant, d.Kind), compressedByRule(block)))
}

// TestBytesOfNoDatabase has for each number of an error the bytes that miss a rule by little.
func TestBytesOfNoDatabase(t *testing.T) {
	d := database(variant(2, 2, 1, 2), impl.KindRolls, exact(0, 0), exact(1, 0), exact(1, 0))
	head, good := headByRule(d.Variant, d.Kind), encodedByRule(d)
	checkEncoded(t, d, good)
	for size := range good { // a beginning
		if size < 11 {
			refuseDecoding(t, good[:size], 1)
		} else {
			refuseDecoding(t, good[:size], 2)
		}
	}
	refuseDecoding(t, nil, 1)
	refuseDecoding(t, signed(head[:8]), 1)
	refuseDecoding(t, signed(append([]byte{66, 71, 68, 2}, good[4:]...)), 1)
	refuseDecoding(t, signed(append([]byte("bgd\x01"), good[4:]...)), 1)
	refuseDecoding(t, signed(append([]byte{0}, good...)), 1)
	refuseDecoding(t, append(slices.Clone(good), 0), 2)
	refuseDecoding(t, append(slices.Clone(good[:len(good)-2]), good[len(good)-1], good[len(good)-2]), 2)
	for _, part := range [][]byte{{1}, {0}, {0, 0}, {0, 5, 1, 0}, {1, 0, 1, 0}, {3, 0, 1, 2, 1}, {3, 0, 1, 2, 0, 7}, {254, 0, 1, 0}, bytes.Repeat([]byte{255, 0}, 236)} {
		refuseDecoding(t, signed(slices.Concat(head, part)), 3)
	}
	refuseDecoding(t, signed(head), 4) // 11 bytes with an empty block
	for _, block := range [][]byte{
		{0}, {0, 0, 0, 2}, {0, 0, 0, 2, 0}, {0, 0, 0, 2, 0, 130}, // an entry is missing, or its end
		{0, 0, 0, 2, 0, 2, 0}, {0, 0, 0, 2, 0, 2, 0, 2}, {0, 0, 0, 2, 0, 2, 0, 0}, // there is more
		{0, 0, 0, 2, 0, 130, 0}, {0, 128, 0, 0, 2, 0, 2}, {0, 0, 0, 130, 128, 0, 0, 2}, // superfluous groups
		{0, 0, 0, 2, 1, 8}, {0, 0, 0, 2, 1, 7}, {0, 0, 0, 2, 1, 0}, {0, 0, 0, 2, 25, 2}, {0, 0, 0, 2, 255, 2}, // no valid numbers
		append([]byte{0, 0, 0, 2}, blockByRule(exacts(exact(mostNum+1, 0)))...), append([]byte{0, 0, 0, 2}, blockByRule(exacts(exact(-mostNum-1, 0)))...),
		append([]byte{0, 0, 0, 2}, blockByRule(exacts(exact(math.MaxInt64, 0)))...), append([]byte{0, 0, 0, 2}, blockByRule(exacts(exact(math.MinInt64, 0)))...),
		slices.Concat([]byte{0, 0, 0, 2, 0}, run(9, 128), []byte{2}), slices.Concat([]byte{0, 0, 0, 2, 0}, run(20, 130), []byte{1}), // beyond 64 bits
		slices.Concat([]byte{0, 0, 0, 2, 0, 130}, run(9, 128), []byte{1}), slices.Concat([]byte{0, 0, 0, 2, 0}, run(59995, 255)),
	} {
		refuseDecoding(t, withBlock(d, block), 4)
	}
	refuseDecoding(t, signed(slices.Concat(head, bytes.Repeat([]byte{255, 0}, 235), []byte{75, 0})), 4) // a block of 60000 bytes
	for _, c := range []impl.Database{
		database(variant(1, 2, 1, 2), 1), database(variant(25, 2, 1, 2), 1), database(variant(2, 0, 1, 2), 1), database(variant(2, 1, 1, 2), 1), database(variant(2, 3, 1, 2), 1),
		database(variant(2, 2, 0, 2), 1), database(variant(2, 2, 3, 2), 1), database(variant(2, 2, 1, 0), 1), database(variant(2, 2, 1, 7), 1), database(variant(255, 2, 1, 2), 1),
		database(variant(2, 2, 1, 2), 0), database(variant(2, 2, 1, 2), 2), database(variant(2, 2, 1, 2), 3), database(variant(2, 2, 1, 2), 255),
	} {
		c.Entries = d.Entries
		refuseDecoding(t, encodedByRule(c), 4)
	}
}

// TestDecodingLimits has databases with more positions or entries than are allowed, and more bytes,
// for which it does not matter what they are.
func TestDecodingLimits(t *testing.T) {
	for _, d := range []impl.Database{
		database(variant(24, 3, 13, 2), impl.KindRolls), database(variant(24, 13, 3, 6), impl.KindRolls), database(variant(24, 9, 2, 6), impl.KindWins), database(variant(24, 2, 9, 1), impl.KindWins),
	} {
		n := countByRule(d.Variant)
		if d.Kind == impl.KindWins {
			n *= n
		}
		for _, size := range list(n, 500, 2500) {
			d.Entries = make([]impl.Exact, size)
			refuseDecoding(t, encodedByRule(d), 4)
		}
	}
	d := database(variant(2, 2, 1, 2), impl.KindRolls)
	long := slices.Concat(headByRule(d.Variant, d.Kind), bytes.Repeat([]byte{1, 0, 1, 2}, 20000))
	for _, size := range []int{59999, 60000, 60001, 60002, 80000} {
		b := signed(long[:size-2])
		missed := list(4, 2, 1)
		if size%2 == 0 { // the last run has no byte
			missed[0] = 3
		}
		wantCode := int64(impl.ErrSyntax)
		if size > 60000 {
			missed, wantCode = list(0, 0, 0), impl.ErrLimit
		}
		checkDecoded(t, b, impl.Database{}, missed[0], wantCode)
		b[size-1]++
		checkDecoded(t, b, impl.Database{}, missed[1], wantCode)
		b[0]++
		checkDecoded(t, b, impl.Database{}, missed[2], wantCode)
	}
}

// editedBytes changes, inserts or removes a few bytes.
func editedBytes(rnd *rand.Rand, b []byte) []byte {
	b = slices.Clone(b)
	for range 1 + rnd.Intn(2) {
		i := rnd.Intn(len(b) + 1)
		c := []byte{0, 1, 2, 127, 128, 129, 255, byte(rnd.Intn(256))}[rnd.Intn(8)]
		switch kind := rnd.Intn(3); {
		case kind == 0 || i == len(b):
			b = slices.Insert(b, i, c)
		case kind == 1:
			b = slices.Delete(b, i, i+1)
		default:
			b[i] = c
		}
	}
	return b
}

// TestEditedEncodings edits blocks, compressed blocks and heads, and appends the checksum afterwards.
func TestEditedEncodings(t *testing.T) {
	rnd := rand.New(rand.NewSource(49))
	found := map[int64]int{} // by the numbers of errors
	for _, v := range []impl.Variant{variant(2, 1, 1, 1), variant(2, 1, 1, 6), variant(2, 2, 1, 2), variant(6, 2, 2, 2), variant(24, 15, 1, 5)} {
		for _, kind := range kinds() {
			databases := []impl.Database{trueDatabase(t, v, kind), randomDatabase(rnd, v, kind), randomDatabase(rnd, v, kind), randomDatabase(rnd, v, kind)}
			for i := range 1500 {
				d := databases[i%len(databases)]
				head, block := headByRule(v, kind), blockByRule(d.Entries)
				compressed := compressedByRule(block)
				switch rnd.Intn(3) {
				case 0:
					compressed = compressedByRule(editedBytes(rnd, block))
				case 1:
					compressed = editedBytes(rnd, compressed)
				default:
					head[4+rnd.Intn(5)] = byte(rnd.Intn(27))
				}
				b := signed(slices.Concat(head, compressed))
				want, at, code := decodedByRule(b)
				checkDecoded(t, b, want, at, code)
				if code == impl.ErrNone {
					checkEncoded(t, want, b)
				}
				found[at]++
			}
		}
	}
	if found[0] < 1000 || found[3] < 1000 || found[4] < 1000 {
		t.Error(found)
	}
}

// TestDatabasesKeepArguments gives entries and bytes in memories that are larger, and overwrites
// results before it looks at the next ones.
func TestDatabasesKeepArguments(t *testing.T) {
	rnd := rand.New(rand.NewSource(50))
	for _, v := range []impl.Variant{variant(2, 1, 1, 1), variant(6, 2, 2, 2), variant(4, 3, 2, 3)} {
		for _, kind := range kinds() {
			want := trueDatabase(t, v, kind)
			size := len(want.Entries)
			memory := append(slices.Clone(want.Entries), randomDatabase(rnd, v, kind).Entries...)
			before := slices.Clone(memory)
			d := database(v, kind, memory[:size]...)
			encoded := encodedByRule(want)
			bytesMemory := slices.Concat(encoded, run(300, 77))
			bytesBefore := slices.Clone(bytesMemory)
			for range 2 { // nothing is kept from the first time
				checkVerified(t, d, -1)
				checkEntry(t, d, make([]int64, v.Home), make([]int64, v.Home), exact(0, 0), impl.ErrNone)
				built, code := impl.BuildDatabase(v, kind)
				overwriteExacts(built.Entries, code)
				back, _, code := impl.DecodeDatabase(bytesMemory[:len(encoded)])
				if !sameDatabase(back, want) {
					t.Fatal(back, want)
				}
				overwriteExacts(back.Entries, code)
				overwriteBytes(impl.EncodeDatabase(d))
				overwriteBytes(impl.CompressBytes(bytesMemory[:len(encoded)]))
				part := bytesMemory[9 : len(encoded)-2]
				overwriteBytes(impl.ExpandBytes(part))
				impl.CheckSum(part)
				checkEncoded(t, d, encoded)
				checkExpanded(t, part, blockByRule(want.Entries))
			}
			if !slices.Equal(memory, before) || !bytes.Equal(bytesMemory, bytesBefore) {
				t.Fatal(memory, before, bytesMemory, bytesBefore)
			}
		}
	}
}

func overwriteBytes(b []byte, _ int64) {
	for i := range b[:cap(b)] {
		b[:cap(b)][i] = 99
	}
}

// TestDatabasesAtTheSameTime calls the functions for several variants at once, and again.
func TestDatabasesAtTheSameTime(t *testing.T) {
	var all sync.WaitGroup
	for i, v := range slices.Repeat(verifiedVariants(), 2) {
		kind := kinds()[i%2]
		want, wantCode := databaseByRule(v, kind)
		encoded := encodedByRule(want)
		all.Go(func() {
			for range 20 {
				d, code := impl.BuildDatabase(v, kind)
				if code != wantCode || !sameDatabase(d, want) {
					t.Errorf("%v: %s, code %d", v, nameOf(d), code)
				}
				checkVerified(t, d, -1)
				checkEncoded(t, d, encoded)
			}
		})
	}
	all.Wait()
}
