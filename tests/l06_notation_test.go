package tests

import (
	"fmt"
	"math"
	"math/rand"
	"slices"
	"strings"
	"testing"

	"loop.example/g00885/impl"
)

// plainByRule follows the definition of plain steps of a valid variant.
func plainByRule(v impl.Variant, s impl.Step) bool {
	if s.From < 0 || s.From > v.Points || s.Die < 1 || s.Die > v.Sides {
		return false
	}
	onBoard := s.To == s.From-s.Die && s.To >= 0
	off := s.To == -1 && !s.Hit && s.From < v.Points && s.Die > s.From
	return onBoard || off
}

// stepTextByRule expects a plain step.
func stepTextByRule(v impl.Variant, s impl.Step) string {
	from, to := fmt.Sprint(s.From+1), fmt.Sprint(s.To+1)
	if s.From == v.Points {
		from = "bar"
	}
	if s.To == -1 {
		to = "off"
	}
	text := from + "/" + to
	if s.Hit {
		text += "*"
	}
	if s.To == -1 && s.Die != s.From+1 {
		text += fmt.Sprintf("(%d)", s.Die)
	}
	return text
}

// plainSteps returns all plain steps of v by their texts.
func plainSteps(t *testing.T, v impl.Variant) map[string]impl.Step {
	t.Helper()
	table := map[string]impl.Step{}
	eachStep(v, func(s impl.Step) {
		if !plainByRule(v, s) {
			return
		}
		text := stepTextByRule(v, s)
		if other, found := table[text]; found {
			t.Errorf("%v: %v and %v have the text %q", v, s, other, text)
		}
		table[text] = s
	})
	return table
}

// textsOf returns the texts of a table in a fixed order.
func textsOf(table map[string]impl.Step) []string {
	var texts []string
	for text := range table {
		texts = append(texts, text)
	}
	slices.Sort(texts)
	return texts
}

// notationVariants have points with one and two digits, and dice that reach beyond the bar.
func notationVariants() []impl.Variant {
	return []impl.Variant{
		impl.FullVariant(), variant(2, 1, 1, 1), variant(2, 2, 2, 6), variant(6, 3, 3, 6), variant(9, 2, 3, 4),
		variant(10, 15, 10, 5), variant(11, 4, 1, 3), variant(24, 1, 24, 2),
	}
}

func checkStepText(t *testing.T, v impl.Variant, s impl.Step) {
	t.Helper()
	want := ""
	if plainByRule(v, s) {
		want = stepTextByRule(v, s)
	}
	if text := impl.StepText(v, s); text != want {
		t.Errorf("%v: %v has the text %q, not %q", v, s, text, want)
	}
}

// checkReadStep compares what is read with the table of all plain steps.
func checkReadStep(t *testing.T, v impl.Variant, table map[string]impl.Step, text string) {
	t.Helper()
	want, found := table[text]
	if s, ok := impl.ReadStep(v, text); ok != found || s != want {
		t.Errorf("%v: %.60q is read as %v, %v, not %v, %v", v, text, s, ok, want, found)
	}
}

// eachSize calls f for every number of points and of sides.
func eachSize(f func(v impl.Variant)) {
	for points := int64(2); points <= 24; points++ {
		for sides := int64(1); sides <= 6; sides++ {
			f(variant(points, 1+points%15, 1+points/2, sides))
		}
	}
}

// TestTextsOfSteps has all steps near the limits of all sizes of variants.
func TestTextsOfSteps(t *testing.T) {
	eachSize(func(v impl.Variant) {
		eachStep(v, func(s impl.Step) { checkStepText(t, v, s) })
		for _, s := range strangeSteps() {
			checkStepText(t, v, s)
		}
	})
}

// TestStepsRecovered checks promise 6 for steps.
func TestStepsRecovered(t *testing.T) {
	eachSize(func(v impl.Variant) {
		for text, want := range plainSteps(t, v) {
			s, ok := impl.ReadStep(v, impl.StepText(v, want))
			if !ok || s != want || impl.StepText(v, s) != text {
				t.Errorf("%v: %v is recovered as %v, %v", v, want, s, ok)
			}
		}
	})
}

func TestExamplesOfStepTexts(t *testing.T) {
	full := impl.FullVariant()
	for text, s := range map[string]impl.Step{
		"24/21*": hit(23, 20, 3), "bar/21": step(24, 20, 4), "3/off(5)": step(2, -1, 5), "3/off": step(2, -1, 3),
		"1/off": step(0, -1, 1), "1/off(6)": step(0, -1, 6), "6/off": step(5, -1, 6), "7/1": step(6, 0, 6), "7/1*": hit(6, 0, 6),
		"bar/24": step(24, 23, 1), "bar/19*": hit(24, 18, 6), "2/1": step(1, 0, 1), "10/9": step(9, 8, 1), "13/7": step(12, 6, 6),
	} {
		if got := impl.StepText(full, s); got != text {
			t.Errorf("%v has the text %q, not %q", s, got, text)
		}
		if got, ok := impl.ReadStep(full, text); !ok || got != s {
			t.Errorf("%q is read as %v, %v, not %v", text, got, ok, s)
		}
	}
	for _, s := range steps(step(2, -1, 2), hit(2, -1, 3), hit(2, -1, 5), step(24, -1, 6), step(24, -1, 25), step(6, -1, 6), step(25, 24, 1), step(23, 20, 4), step(6, 0, 7), step(1, 1, 0)) {
		if text := impl.StepText(full, s); text != "" {
			t.Errorf("%v is not plain, but has the text %q", s, text)
		}
	}
}

func TestBarIsNoNumber(t *testing.T) {
	v := variant(2, 1, 1, 6)
	table := map[string]impl.Step{
		"bar/2": step(2, 1, 1), "bar/2*": hit(2, 1, 1), "bar/1": step(2, 0, 2), "bar/1*": hit(2, 0, 2), "2/1": step(1, 0, 1), "2/1*": hit(1, 0, 1),
		"2/off": step(1, -1, 2), "2/off(3)": step(1, -1, 3), "2/off(4)": step(1, -1, 4), "2/off(5)": step(1, -1, 5), "2/off(6)": step(1, -1, 6),
		"1/off": step(0, -1, 1), "1/off(2)": step(0, -1, 2), "1/off(3)": step(0, -1, 3), "1/off(4)": step(0, -1, 4), "1/off(5)": step(0, -1, 5), "1/off(6)": step(0, -1, 6),
	}
	for text := range table {
		checkReadStep(t, v, table, text)
	}
	for _, text := range []string{"3/2", "3/1", "3/2*", "3/1*", "3/off", "3/off(4)", "bar/off", "bar/off(3)", "bar/off(6)", "bar/bar", "2/bar", "off/1", "off/off", "bar/3", "2/off(2)", "2/off(1)", "2/off(7)", "1/off(1)", "1/off(7)"} {
		checkReadStep(t, v, table, text)
	}
}

// TestStepsOfPieces reads texts that are put together from parts, many of which are wrong.
func TestStepsOfPieces(t *testing.T) {
	places := []string{"", "0", "1", "2", "3", "6", "7", "9", "10", "23", "24", "25", "01", "+1", "-1", " 1", "1 ", "1_0", "bar", "off", "Bar", "ba", "of", "off ", "bar*", "4294967297"}
	marks := []string{"", "*", "**", " ", "()", "(0)", "(1)", "(3)", "(6)", "(7)", "(05)", "(+5)", "(-5)", "(5", "5)", "(5))", "((5)", "(5)*", "*(5)", "(5)(5)", "[5]", "/1", "\n", "\x00"}
	for _, v := range notationVariants() {
		table := plainSteps(t, v)
		for _, from := range places {
			for _, slash := range []string{"", "/", "//", "-", " / ", "\\"} {
				for _, to := range places {
					for _, mark := range marks {
						checkReadStep(t, v, table, from+slash+to+mark)
					}
				}
			}
		}
	}
}

// eachChange calls f for all texts that differ from a text by one byte of the given ones, or lack
// one, and for its beginnings and ends.
func eachChange(text, bytes string, f func(s string)) {
	for i := 0; i <= len(text); i++ {
		f(text[:i])
		f(text[i:])
		for k := range len(bytes) {
			f(text[:i] + bytes[k:k+1] + text[i:])
			if i < len(text) {
				f(text[:i] + bytes[k:k+1] + text[i+1:])
			}
		}
		if i < len(text) {
			f(text[:i] + text[i+1:])
		}
	}
}

func allBytes() string {
	bytes := make([]byte, 256)
	for i := range bytes {
		bytes[i] = byte(i)
	}
	return string(bytes)
}

func TestChangedStepTexts(t *testing.T) {
	for _, v := range notationVariants() {
		table := plainSteps(t, v)
		for text := range table {
			eachChange(text, allBytes(), func(s string) { checkReadStep(t, v, table, s) })
			for _, other := range []string{text + text, text + " " + text, text + "\x00\x00", strings.ToUpper(text) + " ", text + strings.Repeat("\x00", 9)} {
				checkReadStep(t, v, table, other)
			}
		}
	}
}

func TestLongStepTexts(t *testing.T) {
	full := impl.FullVariant()
	table := plainSteps(t, full)
	for _, text := range []string{
		strings.Repeat("9", 100000), strings.Repeat("/", 100000), strings.Repeat("0", 100000) + "8/5", "8/5" + strings.Repeat("*", 100000),
		"18446744073709551624/18446744073709551621", "8/18446744073709551621", "-9223372036854775808/9223372036854775807", "3/off(18446744073709551621)",
		strings.Repeat("3/off(5)", 1000), "3/off(00000000005)", "24/21*\x00", "bar/21\x00\x00", "8/5\xff", "８/５", "8/5\u00a0",
		"8/5" + strings.Repeat(" ", 253), strings.Repeat(" ", 256) + "8/5", "8/5" + strings.Repeat("\x00", 256),
	} {
		checkReadStep(t, full, table, text)
	}
}

// sequenceTextByRule expects at most four plain steps.
func sequenceTextByRule(v impl.Variant, list []impl.Step) string {
	if len(list) == 0 {
		return "-"
	}
	text := ""
	for i, s := range list {
		if i > 0 {
			text += " "
		}
		text += stepTextByRule(v, s)
	}
	return text
}

// readByRule returns the steps with a text if there are any.
func readByRule(table map[string]impl.Step, text string) ([]impl.Step, bool) {
	if text == "-" {
		return nil, true
	}
	var list []impl.Step
	for _, part := range strings.Split(text, " ") {
		s, found := table[part]
		if !found || len(list) == 4 {
			return nil, false
		}
		list = append(list, s)
	}
	return list, true
}

func checkReadSteps(t *testing.T, v impl.Variant, table map[string]impl.Step, text string) {
	t.Helper()
	want, found := readByRule(table, text)
	if list, ok := impl.ReadSteps(v, text); ok != found || !slices.Equal(list, want) {
		t.Errorf("%v: %.80q is read as %v, %v, not %v, %v", v, text, list, ok, want, found)
	}
}

func checkSequenceText(t *testing.T, v impl.Variant, list []impl.Step) {
	t.Helper()
	want := sequenceTextByRule(v, list)
	text := impl.StepsText(v, list)
	if text != want {
		t.Errorf("%v: %v have the text %q, not %q", v, list, text, want)
	}
	if got, ok := impl.ReadSteps(v, text); !ok || !slices.Equal(got, list) {
		t.Errorf("%v: %v are recovered as %v, %v", v, list, got, ok)
	}
}

// someSteps are at most that many random plain steps.
func someSteps(rnd *rand.Rand, table map[string]impl.Step, texts []string, most int) []impl.Step {
	var list []impl.Step
	for range rnd.Intn(most + 1) {
		list = append(list, table[texts[rnd.Intn(len(texts))]])
	}
	return list
}

// TestSequencesRecovered checks promise 6 for steps of a play.
func TestSequencesRecovered(t *testing.T) {
	for _, v := range []impl.Variant{variant(2, 1, 1, 1), variant(2, 1, 2, 2)} {
		table := plainSteps(t, v)
		texts := textsOf(table)
		found := map[string]bool{}
		for length := range 5 {
			eachList(length, 0, int64(len(texts)-1), func(numbers []int64) {
				list := steps()
				for _, n := range numbers {
					list = append(list, table[texts[n]])
				}
				checkSequenceText(t, v, list)
				found[sequenceTextByRule(v, list)] = true
			})
		}
		n := len(texts)
		if len(found) != 1+n+n*n+n*n*n+n*n*n*n {
			t.Errorf("%v: %d texts", v, len(found))
		}
	}
	rnd := rand.New(rand.NewSource(11))
	for _, v := range notationVariants() {
		table := plainSteps(t, v)
		texts := textsOf(table)
		for range 2000 {
			checkSequenceText(t, v, someSteps(rnd, table, texts, 4))
		}
	}
}

func TestStepsWithoutText(t *testing.T) {
	full := impl.FullVariant()
	way := steps(step(23, 22, 1), step(22, 21, 1), hit(21, 20, 1), step(20, 19, 1))
	for _, list := range [][]impl.Step{append(slices.Clone(way), step(19, 18, 1)), append(slices.Clone(way), way...), make([]impl.Step, 5), make([]impl.Step, 100000)} {
		if text := impl.StepsText(full, list); text != "" {
			t.Errorf("%d steps have the text %q", len(list), text)
		}
	}
	for _, wrong := range append(strangeSteps(), step(2, -1, 2), hit(2, -1, 3), step(24, -1, 6), step(7, 4, 4)) {
		for length := 1; length <= 4; length++ {
			for i := range length {
				list := slices.Clone(way[:length])
				list[i] = wrong
				want := ""
				if plainByRule(full, wrong) {
					want = sequenceTextByRule(full, list)
				}
				if text := impl.StepsText(full, list); text != want {
					t.Errorf("%v have the text %q, not %q", list, text, want)
				}
			}
		}
	}
	if text := impl.StepsText(full, nil); text != "-" {
		t.Errorf("no steps have the text %q", text)
	}
	if text := impl.StepsText(full, steps()); text != "-" {
		t.Errorf("no steps have the text %q", text)
	}
}

// TestSequencesOfPieces joins texts of steps, and others, in all ways.
func TestSequencesOfPieces(t *testing.T) {
	v := variant(3, 1, 1, 3)
	table := plainSteps(t, v)
	pieces := []string{"", "-", "3/2", "3/2*", "bar/1", "3/off", "1/off(3)", "3/1,", "2/4", "\n"}
	for length := range 6 {
		eachList(length, 0, int64(len(pieces)-1), func(numbers []int64) {
			parts := []string{}
			for _, n := range numbers {
				parts = append(parts, pieces[n])
			}
			checkReadSteps(t, v, table, strings.Join(parts, " "))
		})
	}
}

func TestChangedSequenceTexts(t *testing.T) {
	tiny := variant(2, 1, 1, 1)
	table := plainSteps(t, tiny)
	for length := range 4 {
		eachList(length, 0, int64(len(table)-1), func(numbers []int64) {
			list := steps()
			for _, n := range numbers {
				list = append(list, table[textsOf(table)[n]])
			}
			eachChange(sequenceTextByRule(tiny, list), "012/ -*()baroff\x00\t", func(s string) { checkReadSteps(t, tiny, table, s) })
		})
	}
	rnd := rand.New(rand.NewSource(12))
	for _, v := range notationVariants() {
		table := plainSteps(t, v)
		texts := textsOf(table)
		for range 30 {
			list := someSteps(rnd, table, texts, 4)
			eachChange(sequenceTextByRule(v, list), allBytes(), func(s string) { checkReadSteps(t, v, table, s) })
		}
	}
}

func TestOtherSequenceTexts(t *testing.T) {
	full := impl.FullVariant()
	table := plainSteps(t, full)
	for _, text := range []string{
		"", " ", "  ", "- ", " -", "--", "- -", "-\n", "-\x00", "8/5 -", "- 8/5", "8/5  6/5", " 8/5", "8/5 ", "8/5 6/5 ", "8/5\t6/5", "8/5\n6/5", "8/5,6/5",
		"8/5/2", "8/5(2)", "8/5 6/5 4/3 3/2 2/1", "8/5 6/5 4/3 3/2 ", "8/5 6/5 4/3 3/2  ", "8/5 6/5 4/3 3/2 x", "8/7 8/7 8/7 8/7", "24/18* 18/12* 12/6* 6/off",
		"3/off(5) 3/off(5) 3/off(5) 3/off(5)", strings.Repeat("8/5 ", 100000), strings.Repeat(" ", 100000), strings.Repeat("-", 100000), "8/5 6/5\xff",
	} {
		checkReadSteps(t, full, table, text)
	}
}

func checkPlayOfText(t *testing.T, v impl.Variant, b impl.Board, r impl.Roll, text string, want impl.Board) {
	t.Helper()
	if after, code := impl.PlayOfText(v, b, r, text); code != impl.ErrNone || !sameBoard(after, want) {
		t.Errorf("%v: %v: %q with %v leads to %v, code %d, not %v", v, b, text, r, after, code, want)
	}
}

func refusePlayOfText(t *testing.T, v impl.Variant, b impl.Board, r impl.Roll, text string, want int64) {
	t.Helper()
	if after, code := impl.PlayOfText(v, b, r, text); code != want || !zeroBoard(after) {
		t.Errorf("%v: %v: %.80q with %v leads to %v, code %d, not %d", v, b, text, r, after, code, want)
	}
}

// TestPlaysOfTexts makes every play of small variants by its text, and refuses steps of one roll
// that are no play of another.
func TestPlaysOfTexts(t *testing.T) {
	for _, v := range []impl.Variant{variant(2, 2, 2, 6), variant(3, 2, 1, 3), variant(4, 2, 2, 2)} {
		eachBoard(v, func(b impl.Board) {
			texts := map[string]bool{"-": true}
			for _, r := range rollsByRule(v) {
				legal, _ := legalSequences(v, b, r)
				for _, p := range legal {
					text := sequenceTextByRule(v, p.Steps)
					texts[text] = true
					checkPlayOfText(t, v, b, r, text, p.Board)
				}
			}
			for _, r := range rollsByRule(v) {
				legal, _ := legalSequences(v, b, r)
				for text := range texts {
					if !slices.ContainsFunc(legal, func(p impl.Play) bool { return sequenceTextByRule(v, p.Steps) == text }) {
						refusePlayOfText(t, v, b, r, text, impl.ErrState)
					}
				}
			}
		})
	}
	rnd := rand.New(rand.NewSource(13))
	for range 300 {
		full := impl.FullVariant()
		b := stepBoard(rnd, full)
		r := roll(6, 1+rnd.Int63n(6))
		plays, _ := playsByRule(full, b, r)
		for i, p := range plays {
			if i%20 == 0 {
				checkPlayOfText(t, full, b, r, sequenceTextByRule(full, p.Steps), p.Board)
			}
		}
	}
}

func TestExamplesOfPlayTexts(t *testing.T) {
	full := impl.FullVariant()
	start, _ := impl.StartBoard(full)
	own := slices.Clone(start.Own)
	own[7], own[5], own[4] = 2, 4, 2
	checkPlayOfText(t, full, start, roll(3, 1), "8/5 6/5", impl.Board{Own: own, Other: start.Other})
	checkPlayOfText(t, full, start, roll(3, 1), "6/5 8/5", impl.Board{Own: own, Other: start.Other})
	for _, text := range []string{"-", "8/5", "6/5", "8/5* 6/5", "8/5 6/5 8/5", "8/7 6/5", "24/23 6/5", "1/off 8/5", "bar/24 8/5", "12/9 6/5"} {
		refusePlayOfText(t, full, start, roll(3, 1), text, impl.ErrState)
	}
	for _, text := range []string{"", "8-5", "8/5  6/5", "8/5 6/6", "8/5 6/5 ", "31: 8/5 6/5", "8/1 6/5*(2)", "8/7 8/7 6/5 6/5 6/5", "25/24"} {
		refusePlayOfText(t, full, start, roll(3, 1), text, impl.ErrSyntax)
	}
	closed := impl.Board{Own: filled(25, map[int]int64{24: 1, 3: 2}), Other: filled(25, map[int]int64{0: 2, 1: 2, 2: 2, 3: 2, 4: 2, 5: 2})}
	checkPlayOfText(t, full, closed, roll(6, 6), "-", closed)
	refusePlayOfText(t, full, closed, roll(6, 6), "bar/19", impl.ErrState)
	refusePlayOfText(t, full, closed, roll(6, 6), "", impl.ErrSyntax)
	over := impl.Board{Own: make([]int64, 25), Other: filled(25, map[int]int64{0: 2})}
	checkPlayOfText(t, full, over, roll(6, 5), "-", over)
	refusePlayOfText(t, full, over, roll(6, 5), "6/off", impl.ErrState)
}

// TestOrderOfPlayErrors has arguments with several errors at once.
func TestOrderOfPlayErrors(t *testing.T) {
	full := impl.FullVariant()
	start, _ := impl.StartBoard(full)
	for _, text := range []string{"", "x", "-", "8/5 6/5", "24/18 24/18 24/18 24/18", strings.Repeat("8/5 ", 1000)} {
		for _, r := range append(strangeRolls(6), roll(3, 1), roll(6, 6)) {
			for _, b := range invalidBoards() {
				refusePlayOfText(t, full, b, r, text, impl.ErrInvalid)
			}
			for _, v := range invalidVariants() {
				refusePlayOfText(t, v, start, r, text, impl.ErrInvalid)
			}
		}
		for _, r := range strangeRolls(6) {
			refusePlayOfText(t, full, start, r, text, impl.ErrRange)
		}
	}
}

func TestTextsOfRolls(t *testing.T) {
	eachSize(func(v impl.Variant) {
		texts := map[string]impl.Roll{}
		for _, r := range rollsByRule(v) {
			text := fmt.Sprintf("%d%d", r.A, r.B)
			texts[text] = r
			if got := impl.RollText(v, r); got != text {
				t.Errorf("%v: %v has the text %q", v, r, got)
			}
		}
		for _, r := range strangeRolls(v.Sides) {
			if got := impl.RollText(v, r); got != "" {
				t.Errorf("%v: %v has the text %q", v, r, got)
			}
		}
		if v.Points%11 == 2 {
			checkReadRolls(t, v, texts)
		}
	})
}

// checkReadRolls reads all texts of two bytes, and some others.
func checkReadRolls(t *testing.T, v impl.Variant, texts map[string]impl.Roll) {
	t.Helper()
	check := func(text string) {
		want, found := texts[text]
		if r, ok := impl.ReadRoll(v, text); ok != found || r != want {
			t.Errorf("%v: %.60q is read as %v, %v, not %v, %v", v, text, r, ok, want, found)
		}
	}
	for first := range 256 {
		check(string([]byte{byte(first)}))
		for second := range 256 {
			check(string([]byte{byte(first), byte(second)}))
		}
	}
	for _, text := range []string{"", "1", "3", "111", "011", "110", "+11", " 11", "11 ", "11\n", "11\x00", "1 1", "1-1", "1/1", "-11", "１１", strings.Repeat("1", 100000)} {
		check(text)
	}
}

func checkTurn(t *testing.T, v impl.Variant, r impl.Roll, list []impl.Step) {
	t.Helper()
	want := fmt.Sprintf("%d%d: %s", r.A, r.B, sequenceTextByRule(v, list))
	text := impl.TurnText(v, r, list)
	if text != want {
		t.Errorf("%v: %v and %v have the text %q, not %q", v, r, list, text, want)
	}
	if got, way, code := impl.ReadTurn(v, text); code != impl.ErrNone || got != r || !slices.Equal(way, list) {
		t.Errorf("%v: %q is read as %v and %v, code %d", v, text, got, way, code)
	}
}

// TestTurnsRecovered checks promise 6 for turns, whatever the dice of the steps are.
func TestTurnsRecovered(t *testing.T) {
	rnd := rand.New(rand.NewSource(14))
	eachSize(func(v impl.Variant) {
		table := plainSteps(t, v)
		texts := textsOf(table)
		for _, r := range rollsByRule(v) {
			checkTurn(t, v, r, nil)
			for range 20 {
				checkTurn(t, v, r, someSteps(rnd, table, texts, 4))
			}
		}
	})
}

// readTurnByRule returns the turn with a text of at most 80 bytes, if there is one.
func readTurnByRule(v impl.Variant, table map[string]impl.Step, text string) (impl.Roll, []impl.Step, int64) {
	if len(text) < 4 || text[2:4] != ": " {
		return impl.Roll{}, nil, impl.ErrSyntax
	}
	list, ok := readByRule(table, text[4:])
	for _, r := range rollsByRule(v) {
		if ok && text[0] == byte('0'+r.A) && text[1] == byte('0'+r.B) {
			return r, list, impl.ErrNone
		}
	}
	return impl.Roll{}, nil, impl.ErrSyntax
}

func checkReadTurn(t *testing.T, v impl.Variant, table map[string]impl.Step, text string) {
	t.Helper()
	wantRoll, want, code := readTurnByRule(v, table, text)
	if len(text) > 80 {
		wantRoll, want, code = impl.Roll{}, nil, impl.ErrLimit
	}
	if r, list, got := impl.ReadTurn(v, text); got != code || r != wantRoll || !slices.Equal(list, want) {
		t.Errorf("%v: %.90q is read as %v and %v, code %d, not %v and %v, code %d", v, text, r, list, got, wantRoll, want, code)
	}
}

func TestChangedTurnTexts(t *testing.T) {
	rnd := rand.New(rand.NewSource(15))
	for _, v := range notationVariants() {
		table := plainSteps(t, v)
		texts := textsOf(table)
		rolls := rollsByRule(v)
		for range 25 {
			r := rolls[rnd.Intn(len(rolls))]
			text := fmt.Sprintf("%d%d: %s", r.A, r.B, sequenceTextByRule(v, someSteps(rnd, table, texts, 4)))
			eachChange(text, allBytes(), func(s string) { checkReadTurn(t, v, table, s) })
		}
	}
}

func TestOtherTurnTexts(t *testing.T) {
	full := impl.FullVariant()
	table := plainSteps(t, full)
	for _, text := range []string{
		"", "-", "31", "31:", "31: ", "31:8/5", "31 8/5", "31:  8/5", "31: 8/5  6/5", "31: 8/5 6/5 ", "31: 8/5 6/5", " 31: -", "31: -", "31: - ", "31: --", "66: -", "11: 2/1 2/1 2/1 2/1", "11: 2/1 2/1 2/1 2/1 2/1",
		"13: 8/5 6/5", "71: 8/5", "01: 8/5", "10: 8/5", "3: 8/5", "311: 8/5", "31; 8/5", "31: 31: 8/5", "31: 8/5: 6/5", "31 : 8/5", ": 8/5", "31: bar/off", "31: 25/24", "31: 24/10", "31: 3/off(3)", "31: 3/off(5)", "31: 6/off",
	} {
		checkReadTurn(t, full, table, text)
	}
}

// TestLongTurnTexts has texts at the limit, and one byte beyond it.
func TestLongTurnTexts(t *testing.T) {
	if impl.MaxTurnText != 80 {
		t.Error(impl.MaxTurnText)
	}
	full := impl.FullVariant()
	table := plainSteps(t, full)
	for _, begin := range []string{"", "31: -", "31: 8/5 6/5", "x", " ", "31: 3/off(5) 3/off(5) 3/off(5) 3/off(5)"} {
		for _, fill := range []string{" ", "0", "-", "\x00", "\xff"} {
			for _, length := range []int{79, 80, 81, 82, 160, 256, 65536 + 5, 100000} {
				text := begin + strings.Repeat(fill, length-len(begin))
				checkReadTurn(t, full, table, text)
			}
		}
	}
	if _, _, code := impl.ReadTurn(full, strings.Repeat("x", 80)); code != impl.ErrSyntax {
		t.Error(code)
	}
	if _, _, code := impl.ReadTurn(full, strings.Repeat("x", 81)); code != impl.ErrLimit {
		t.Error(code)
	}
	checkTurn(t, full, roll(6, 6), steps(step(0, -1, 6), step(1, -1, 6), step(2, -1, 6), step(3, -1, 6)))
}

func TestTurnsWithoutText(t *testing.T) {
	full := impl.FullVariant()
	way := steps(step(7, 4, 3), step(5, 4, 1))
	for _, r := range strangeRolls(6) {
		for _, list := range [][]impl.Step{nil, way} {
			if text := impl.TurnText(full, r, list); text != "" {
				t.Errorf("%v and %v have the text %q", r, list, text)
			}
		}
	}
	for _, list := range [][]impl.Step{steps(step(7, 4, 4)), steps(step(7, 4, 3), step(2, -1, 2)), make([]impl.Step, 5), slices.Repeat(way, 3), steps(step(24, -1, 6))} {
		if text := impl.TurnText(full, roll(3, 1), list); text != "" {
			t.Errorf("%v have the text %q", list, text)
		}
	}
}

// TestTextsOfInvalidVariants has steps, rolls and texts that valid variants have.
func TestTextsOfInvalidVariants(t *testing.T) {
	way := steps(step(1, 0, 1), step(0, -1, 1))
	for _, v := range invalidVariants() {
		for _, s := range append(strangeSteps(), step(1, 0, 1), step(0, -1, 1), step(v.Points, v.Points-1, 1), step(0, -1, v.Sides)) {
			if text := impl.StepText(v, s); text != "" {
				t.Errorf("%v: %v has the text %q", v, s, text)
			}
		}
		for _, list := range [][]impl.Step{nil, way, way[:1]} {
			for _, r := range []impl.Roll{{}, roll(1, 1), roll(2, 1), roll(6, 6), roll(v.Sides, 1), roll(v.Sides, v.Sides)} {
				if text := impl.StepsText(v, list) + impl.RollText(v, r) + impl.TurnText(v, r, list); text != "" {
					t.Errorf("%v: %v and %v have the text %q", v, r, list, text)
				}
			}
		}
		for _, text := range []string{"", "-", "2/1", "1/off", "bar/1", "bar/off", "8/5", "11", "21", "66", "00", "11: -", "11: 2/1", "66: 1/off(6)", "x", strings.Repeat("x", 81)} {
			refuseReading(t, v, text)
		}
	}
}

// refuseReading checks what is read for a variant that is not valid.
func refuseReading(t *testing.T, v impl.Variant, text string) {
	t.Helper()
	if s, ok := impl.ReadStep(v, text); ok || s != (impl.Step{}) {
		t.Errorf("%v: %.60q is read as %v, %v", v, text, s, ok)
	}
	if list, ok := impl.ReadSteps(v, text); ok || len(list) != 0 {
		t.Errorf("%v: %.60q is read as %v, %v", v, text, list, ok)
	}
	if r, ok := impl.ReadRoll(v, text); ok || r != (impl.Roll{}) {
		t.Errorf("%v: %.60q is read as %v, %v", v, text, r, ok)
	}
	if r, list, code := impl.ReadTurn(v, text); code != impl.ErrInvalid || r != (impl.Roll{}) || len(list) != 0 {
		t.Errorf("%v: %.60q is read as %v and %v, code %d", v, text, r, list, code)
	}
}

// TestStepsOfTextsAreNew changes what was read before it reads again, and has memory behind steps.
func TestStepsOfTextsAreNew(t *testing.T) {
	full := impl.FullVariant()
	want := steps(step(7, 4, 3), step(5, 4, 1))
	memory := append(slices.Clone(want), step(9, 9, 9), hit(math.MaxInt64, 0, 0), step(8, 8, 8))
	before := slices.Clone(memory)
	for range 2 {
		if text := impl.StepsText(full, memory[:2]) + impl.TurnText(full, roll(3, 1), memory[:2]); text != "8/5 6/531: 8/5 6/5" {
			t.Error(text)
		}
		list, ok := impl.ReadSteps(full, "8/5 6/5")
		r, way, code := impl.ReadTurn(full, "31: 8/5 6/5")
		if !ok || !slices.Equal(list, want) || code != impl.ErrNone || r != roll(3, 1) || !slices.Equal(way, want) {
			t.Fatal(list, ok, r, way, code)
		}
		clear(list)
		_ = append(list, step(1, 2, 3))
		if !slices.Equal(way, want) || !slices.Equal(memory, before) {
			t.Fatal(way, memory)
		}
		clear(way)
		none, ok := impl.ReadSteps(full, "-")
		if !ok || len(none) != 0 {
			t.Fatal(none, ok)
		}
		_ = append(none, step(1, 2, 3))
	}
}

// TestBoardsOfTextsAreNew has a play without steps, and one list as both sides.
func TestBoardsOfTextsAreNew(t *testing.T) {
	v := variant(4, 2, 2, 2)
	memory := list(0, 1, 0, 1, 0, 77, 88, 66)
	before := slices.Clone(memory)
	b := impl.Board{Own: memory[:5], Other: memory[:5]}
	over := impl.Board{Own: make([]int64, 5, 9), Other: memory[:5]}
	for range 2 {
		after, code := impl.PlayOfText(v, b, roll(2, 1), "4/2 2/1*")
		if code != impl.ErrNone || !slices.Equal(after.Own, list(1, 1, 0, 0, 0)) || !slices.Equal(after.Other, list(0, 1, 0, 0, 1)) {
			t.Fatal(after, code)
		}
		spoil(after)
		after, code = impl.PlayOfText(v, over, roll(2, 1), "-")
		if code != impl.ErrNone || !sameBoard(after, over) {
			t.Fatal(after, code)
		}
		spoil(after)
		if !slices.Equal(memory, before) || sumOf(over.Own[:9]) != 0 {
			t.Fatal(memory, over)
		}
	}
}
