package tests

import (
	"math"
	"math/rand"
	"slices"
	"strconv"
	"strings"
	"testing"

	"loop.example/g00885/impl"
)

// idAlphabet has the 64 bytes of identifiers.
var idAlphabet = func() string {
	var s strings.Builder
	for _, r := range []string{"AZ", "az", "09", "++", "--"} {
		for c := r[0]; c <= r[1]; c++ {
			s.WriteByte(c)
		}
	}
	return s.String()
}()

// sideVariants are variants of which all sides can be listed.
func sideVariants() []impl.Variant {
	return []impl.Variant{
		variant(2, 1, 1, 1), variant(2, 15, 2, 6), variant(3, 4, 1, 3), variant(4, 2, 2, 2),
		variant(5, 3, 5, 1), variant(6, 3, 3, 3), variant(9, 2, 4, 6), variant(14, 1, 7, 2),
	}
}

// largeVariants are variants with too many sides to list.
func largeVariants() []impl.Variant {
	return []impl.Variant{
		impl.FullVariant(), variant(24, 15, 1, 1), variant(24, 1, 6, 6), variant(23, 15, 6, 6),
		variant(24, 14, 24, 6), variant(12, 15, 6, 4), variant(17, 9, 5, 3),
	}
}

// sideCounts has at [n][c] the number of lists of n numbers with a sum of at most c: the last
// number is 0, or one can be taken from it.
func sideCounts() [26][16]int64 {
	var counts [26][16]int64
	for n := range counts {
		for c := range counts[n] {
			counts[n][c] = 1
			if n > 0 && c > 0 {
				counts[n][c] = counts[n-1][c] + counts[n][c-1]
			}
		}
	}
	return counts
}

func TestLimitsOfIdentifiers(t *testing.T) {
	if impl.MaxIdBits != 80 || impl.MaxIdText != 14 {
		t.Error(impl.MaxIdBits, impl.MaxIdText)
	}
	if len(idAlphabet) != 64 {
		t.Error(idAlphabet)
	}
}

func TestSideCounts(t *testing.T) {
	counts := sideCounts()
	eachVariant(func(v impl.Variant) {
		if n := impl.SideCount(v); n != counts[v.Points+1][v.Checkers] {
			t.Errorf("%v: %d sides", v, n)
		}
	})
	for _, v := range sideVariants() {
		if n := impl.SideCount(v); n != int64(len(sidesOf(v))) {
			t.Errorf("%v: %d sides", v, n)
		}
	}
	if n := impl.SideCount(variant(4, 2, 2, 2)); n != 21 {
		t.Error(n)
	}
	for _, v := range invalidVariants() {
		if n := impl.SideCount(v); n != -1 {
			t.Errorf("%v: %d sides", v, n)
		}
	}
}

func checkSide(t *testing.T, v impl.Variant, side []int64, number int64) {
	t.Helper()
	if n, code := impl.SideNumber(v, side); n != number || code != impl.ErrNone {
		t.Errorf("%v: %v: number %d, code %d", v, side, n, code)
	}
	if s, code := impl.SideOfNumber(v, number); !slices.Equal(s, side) || code != impl.ErrNone {
		t.Errorf("%v: %d: side %v, code %d", v, number, s, code)
	}
}

// TestNumbersOfAllSides checks the first part of promise 3.
func TestNumbersOfAllSides(t *testing.T) {
	for _, v := range sideVariants() {
		sides := sidesOf(v)
		slices.SortFunc(sides, slices.Compare[[]int64])
		for number, side := range sides {
			checkSide(t, v, side, int64(number))
		}
	}
}

func TestNumbersOfFirstAndLastSides(t *testing.T) {
	eachVariant(func(v impl.Variant) {
		size, last := int(v.Points)+1, sideCounts()[v.Points+1][v.Checkers]-1
		checkSide(t, v, make([]int64, size), 0)
		checkSide(t, v, filled(size, map[int]int64{size - 1: 1}), 1)
		checkSide(t, v, filled(size, map[int]int64{size - 1: v.Checkers}), v.Checkers)
		checkSide(t, v, filled(size, map[int]int64{size - 2: 1}), v.Checkers+1)
		checkSide(t, v, filled(size, map[int]int64{0: v.Checkers}), last)
		checkSide(t, v, filled(size, map[int]int64{0: v.Checkers - 1, 1: 1}), last-1)
	})
}

// TestNumbersOfLargeSides compares the order of sides with that of their numbers.
func TestNumbersOfLargeSides(t *testing.T) {
	r := rand.New(rand.NewSource(3))
	for _, v := range largeVariants() {
		count := sideCounts()[v.Points+1][v.Checkers]
		for range 2000 {
			number := r.Int63n(count - 1)
			side, next := checkNumber(t, v, number), checkNumber(t, v, number+1)
			if slices.Compare(side, next) >= 0 {
				t.Errorf("%v: %d: %v is not before %v", v, number, side, next)
			}
			less := r.Int63n(number + 1)
			if slices.Compare(checkNumber(t, v, less), next) >= 0 {
				t.Errorf("%v: the side %d is not before %d", v, less, number+1)
			}
		}
	}
}

// checkNumber returns the side with a number, which must be a side and have this number.
func checkNumber(t *testing.T, v impl.Variant, number int64) []int64 {
	t.Helper()
	side, code := impl.SideOfNumber(v, number)
	if code != impl.ErrNone || int64(len(side)) != v.Points+1 || slices.Min(side) < 0 || sumOf(side) > v.Checkers {
		t.Fatalf("%v: %d: side %v, code %d", v, number, side, code)
	}
	checkSide(t, v, side, number)
	return side
}

// TestNumbersOfRandomSides counts the sides before one in another way: for each element, the sides
// that are equal before it, without those that are at least as great there.
func TestNumbersOfRandomSides(t *testing.T) {
	counts := sideCounts()
	eachRandomBoard(func(v impl.Variant, b impl.Board) {
		number, left := int64(0), v.Checkers
		for i, n := range b.Own {
			number += counts[len(b.Own)-i][left] - counts[len(b.Own)-i][left-n]
			left -= n
		}
		checkSide(t, v, b.Own, number)
	})
}

func refuseSide(t *testing.T, v impl.Variant, side []int64) {
	t.Helper()
	if n, code := impl.SideNumber(v, side); n != 0 || code != impl.ErrInvalid {
		t.Errorf("%v: %v: number %d, code %d", v, side, n, code)
	}
}

func TestNumbersOfInvalidSides(t *testing.T) {
	for _, side := range invalidSides() {
		refuseSide(t, impl.FullVariant(), side)
	}
	for _, v := range []impl.Variant{variant(2, 1, 1, 1), variant(3, 2, 2, 2)} {
		eachList(int(v.Points)+1, -1, v.Checkers+1, func(side []int64) {
			if slices.Min(side) < 0 || sumOf(side) > v.Checkers {
				refuseSide(t, v, side)
			}
		})
		refuseSide(t, v, make([]int64, v.Points))
		refuseSide(t, v, make([]int64, v.Points+2))
	}
	for _, v := range invalidVariants() {
		for _, size := range []int{0, 1, 2, 3, 25, 26} {
			refuseSide(t, v, make([]int64, size))
		}
	}
}

func refuseNumber(t *testing.T, v impl.Variant, number, want int64) {
	t.Helper()
	if side, code := impl.SideOfNumber(v, number); len(side) != 0 || code != want {
		t.Errorf("%v: %d: side %v, code %d", v, number, side, code)
	}
}

func TestNoSuchSide(t *testing.T) {
	counts := sideCounts()
	far := list(-1, -1<<32, math.MinInt64, math.MaxInt64)
	eachVariant(func(v impl.Variant) {
		for _, number := range append(far, counts[v.Points+1][v.Checkers]) {
			refuseNumber(t, v, number, impl.ErrNotFound)
		}
	})
	for _, v := range invalidVariants() {
		for _, number := range append(far, 0, 1) {
			refuseNumber(t, v, number, impl.ErrInvalid)
		}
	}
}

// bitsText writes the bits of a board as digits.
func bitsText(b impl.Board) string {
	s := ""
	for _, side := range [][]int64{b.Own, b.Other} {
		for _, n := range side {
			s += strings.Repeat("1", int(n)) + "0"
		}
	}
	return s
}

func bitsOfText(s string) []int64 {
	bits := make([]int64, len(s))
	for i := range s {
		bits[i] = int64(s[i] - '0')
	}
	return bits
}

func idOf(b impl.Board) string {
	s := bitsText(b)
	for len(s)%6 != 0 {
		s += "0"
	}
	id := ""
	for ; s != ""; s = s[6:] {
		n, err := strconv.ParseUint(s[:6], 2, 6)
		if err != nil {
			panic(err)
		}
		id += idAlphabet[n : n+1]
	}
	return id
}

func TestBitsAndIdentifiers(t *testing.T) {
	eachTestBoard(func(v impl.Variant, b impl.Board) {
		if bits := impl.BoardBits(v, b); !slices.Equal(bits, bitsOfText(bitsText(b))) {
			t.Errorf("%v: %v: bits %v", v, b, bits)
		}
		if id := impl.BoardId(v, b); id != idOf(b) {
			t.Errorf("%v: %v: identifier %q", v, b, id)
		}
	})
}

// TestBoardsRecovered checks the second part of promise 3.
func TestBoardsRecovered(t *testing.T) {
	eachTestBoard(func(v impl.Variant, b impl.Board) {
		if got, code := impl.BoardOfBits(v, impl.BoardBits(v, b)); code != impl.ErrNone || !sameBoard(got, b) {
			t.Errorf("%v: %v: bits read as %v, code %d", v, b, got, code)
		}
		if got, code := impl.ReadBoardId(v, impl.BoardId(v, b)); code != impl.ErrNone || !sameBoard(got, b) {
			t.Errorf("%v: %v: identifier read as %v, code %d", v, b, got, code)
		}
	})
}

// TestLargestBoards has as many bits as there can be, and the board of the example.
func TestLargestBoards(t *testing.T) {
	full := impl.FullVariant()
	for _, c := range []struct {
		own, other map[int]int64
		id         string
	}{
		{map[int]int64{0: 15}, map[int]int64{0: 15}, "--4AAAD--gAAAA"},
		{map[int]int64{24: 15}, map[int]int64{24: 15}, "AAAA--4AAAD--g"},
	} {
		b := impl.Board{Own: filled(25, c.own), Other: filled(25, c.other)}
		id := impl.BoardId(full, b)
		if bits := impl.BoardBits(full, b); len(bits) != 80 || id != c.id {
			t.Errorf("%v: %v, %q", b, bits, id)
		}
	}
	start, _ := impl.StartBoard(full)
	if id := impl.BoardId(full, start); id != idOf(start) || len(id) != 14 {
		t.Errorf("%q", id)
	}
	if id := impl.BoardId(variant(2, 1, 1, 1), impl.Board{Own: list(1, 0, 0), Other: list(1, 0, 0)}); id != "iA" {
		t.Errorf("%q", id)
	}
}

// TestDifferentIdentifiers compares all boards of a variant with each other.
func TestDifferentIdentifiers(t *testing.T) {
	for _, v := range []impl.Variant{variant(2, 3, 1, 1), variant(4, 2, 2, 2), variant(5, 2, 2, 3)} {
		ids, bits := map[string]bool{}, map[string]bool{}
		boards := 0
		eachBoard(v, func(b impl.Board) {
			boards++
			ids[impl.BoardId(v, b)] = true
			bits[bitsText(b)] = true
		})
		if len(ids) != boards || len(bits) != boards {
			t.Errorf("%v: %d identifiers of %d boards", v, len(ids), boards)
		}
	}
}

// refuseIdentifying checks what is returned for a board or a variant that is not valid.
func refuseIdentifying(t *testing.T, v impl.Variant, b impl.Board) {
	t.Helper()
	if bits := impl.BoardBits(v, b); bits != nil {
		t.Errorf("%v: %v: bits %v", v, b, bits)
	}
	if id := impl.BoardId(v, b); id != "" {
		t.Errorf("%v: %v: identifier %q", v, b, id)
	}
}

func TestIdentifiersOfInvalidBoards(t *testing.T) {
	for _, b := range invalidBoards() {
		refuseIdentifying(t, impl.FullVariant(), b)
	}
	for _, v := range invalidVariants() {
		refuseIdentifying(t, v, impl.Board{})
		for _, size := range []int{1, 2, 3, 25, 26} {
			refuseIdentifying(t, v, impl.Board{Own: filled(size, map[int]int64{0: 1}), Other: make([]int64, size)})
		}
	}
	refuseIdentifying(t, variant(3, 2, 2, 2), impl.Board{Own: list(2, 0, 0, 0, 0), Other: list(2, 0, 0, 0, 0)})
}

func refuseBits(t *testing.T, v impl.Variant, bits []int64, want int64) {
	t.Helper()
	if b, code := impl.BoardOfBits(v, bits); code != want || !zeroBoard(b) {
		t.Errorf("%v: %v: board %v, code %d", v, bits, b, code)
	}
}

func refuseId(t *testing.T, v impl.Variant, s string, want int64) {
	t.Helper()
	if b, code := impl.ReadBoardId(v, s); code != want || !zeroBoard(b) {
		t.Errorf("%v: %.60q: board %v, code %d", v, s, b, code)
	}
}

// TestAllBits reads every list of bits that is at most a bit longer than those of a board.
func TestAllBits(t *testing.T) {
	for _, v := range []impl.Variant{variant(2, 1, 1, 1), variant(2, 3, 2, 2), variant(3, 2, 1, 1)} {
		boards := map[string]impl.Board{}
		eachBoard(v, func(b impl.Board) { boards[bitsText(b)] = b })
		for size := range int(2*v.Points + 2 + 2*v.Checkers + 2) {
			eachList(size, 0, 1, func(bits []int64) {
				key := ""
				for _, bit := range bits {
					key += string('0' + rune(bit))
				}
				want, found := boards[key]
				if !found {
					refuseBits(t, v, bits, impl.ErrNotFound)
				} else if b, code := impl.BoardOfBits(v, bits); code != impl.ErrNone || !sameBoard(b, want) {
					t.Errorf("%v: %v: board %v, code %d", v, bits, b, code)
				}
			})
		}
	}
}

// TestAllTexts reads every text that is at most a byte longer than an identifier.
func TestAllTexts(t *testing.T) {
	for _, v := range []impl.Variant{variant(2, 1, 1, 1), variant(2, 3, 2, 2), variant(3, 2, 1, 1)} {
		boards := map[string]impl.Board{}
		eachBoard(v, func(b impl.Board) { boards[idOf(b)] = b })
		for size := range 4 {
			eachList(size, 0, 63, func(numbers []int64) {
				s := ""
				for _, n := range numbers {
					s += idAlphabet[n : n+1]
				}
				want, found := boards[s]
				if !found {
					refuseId(t, v, s, impl.ErrNotFound)
				} else if b, code := impl.ReadBoardId(v, s); code != impl.ErrNone || !sameBoard(b, want) {
					t.Errorf("%v: %q: board %v, code %d", v, s, b, code)
				}
			})
		}
	}
}

func TestBitsOutOfRange(t *testing.T) {
	v := variant(2, 1, 1, 1)
	for _, bad := range list(2, -1, 3, 1<<32, 1<<32+1, math.MinInt64, math.MaxInt64) {
		for i := range 8 {
			bits := list(1, 0, 0, 0, 1, 0, 0, 0)
			bits[i] = bad
			refuseBits(t, v, bits, impl.ErrRange)
		}
		refuseBits(t, v, list(bad), impl.ErrRange)
		refuseBits(t, v, append(make([]int64, 79), bad), impl.ErrRange)
		refuseBits(t, v, append(make([]int64, 80), bad), impl.ErrRange)
	}
}

// TestManyBits has a board of 80 bits, which is as many as are accepted.
func TestManyBits(t *testing.T) {
	full, small := impl.FullVariant(), variant(2, 1, 1, 1)
	bits := impl.BoardBits(full, impl.Board{Own: filled(25, map[int]int64{24: 15}), Other: filled(25, map[int]int64{3: 15})})
	if b, code := impl.BoardOfBits(full, bits); len(bits) != 80 || code != impl.ErrNone || len(b.Own) != 25 {
		t.Errorf("%d bits: %v, code %d", len(bits), b, code)
	}
	for _, bit := range list(0, 1) {
		refuseBits(t, full, append(slices.Clone(bits), bit), impl.ErrRange)
		refuseBits(t, full, slices.Repeat(list(bit), 80), impl.ErrNotFound)
		refuseBits(t, small, slices.Repeat(list(bit), 80), impl.ErrNotFound)
		refuseBits(t, small, slices.Repeat(list(bit), 81), impl.ErrRange)
		refuseBits(t, small, slices.Repeat(list(bit), 100000), impl.ErrRange)
	}
	refuseBits(t, full, bits[:79], impl.ErrNotFound)
	refuseBits(t, full, bits[1:], impl.ErrNotFound)
	refuseBits(t, full, nil, impl.ErrNotFound)
	refuseBits(t, small, nil, impl.ErrNotFound)
}

func TestBitsAndTextsOfInvalidVariants(t *testing.T) {
	for _, v := range invalidVariants() {
		for _, bits := range [][]int64{nil, list(0), list(1, 0, 0, 0, 1, 0, 0, 0), list(2), make([]int64, 81)} {
			refuseBits(t, v, bits, impl.ErrInvalid)
		}
		for _, s := range []string{"", "A", "iA", "!", strings.Repeat("A", 14), strings.Repeat("A", 15), strings.Repeat("!", 15)} {
			refuseId(t, v, s, impl.ErrInvalid)
		}
	}
}

func TestLongTexts(t *testing.T) {
	start, _ := impl.StartBoard(impl.FullVariant())
	for _, v := range []impl.Variant{impl.FullVariant(), variant(2, 1, 1, 1)} {
		for _, s := range []string{"A", "-", "!"} {
			refuseId(t, v, strings.Repeat(s, 15), impl.ErrLimit)
			refuseId(t, v, strings.Repeat(s, 100000), impl.ErrLimit)
		}
		refuseId(t, v, idOf(start)+"A", impl.ErrLimit)
		refuseId(t, v, "iAAAAAAAAAAAA\u00e9", impl.ErrLimit) // 14 runes
		refuseId(t, v, strings.Repeat("A", 14), impl.ErrNotFound)
		refuseId(t, v, strings.Repeat("-", 14), impl.ErrNotFound)
		refuseId(t, v, strings.Repeat("!", 14), impl.ErrSyntax)
		refuseId(t, v, "iAAAAAAAAAAA\u00e9", impl.ErrSyntax)
		refuseId(t, v, "", impl.ErrNotFound)
	}
}

// TestOtherBytes puts every byte at every place of an identifier.
func TestOtherBytes(t *testing.T) {
	full := impl.FullVariant()
	start, _ := impl.StartBoard(full)
	id := idOf(start)
	for i := range id {
		for c := range 256 {
			s := id[:i] + string([]byte{byte(c)}) + id[i+1:]
			if strings.IndexByte(idAlphabet, byte(c)) < 0 {
				refuseId(t, full, s, impl.ErrSyntax)
				refuseId(t, full, id[:i]+string([]byte{byte(c)}), impl.ErrSyntax)
				continue
			}
			b, code := impl.ReadBoardId(full, s)
			if code == impl.ErrNone && (!impl.IsBoard(full, b) || idOf(b) != s) {
				t.Errorf("%q: board %v", s, b)
			} else if code != impl.ErrNone {
				refuseId(t, full, s, impl.ErrNotFound)
			}
		}
	}
}

// TestBoardsOfBitsAreNew changes every list of a result.
func TestBoardsOfBitsAreNew(t *testing.T) {
	v := variant(2, 1, 1, 1)
	want := impl.Board{Own: list(1, 0, 0), Other: list(1, 0, 0)}
	memory := list(1, 0, 0, 0, 1, 0, 0, 0, 77)
	bits := memory[:8]
	for _, read := range []func() (impl.Board, int64){
		func() (impl.Board, int64) { return impl.BoardOfBits(v, bits) },
		func() (impl.Board, int64) { return impl.ReadBoardId(v, "iA") },
	} {
		for range 2 { // nothing is kept from the first time
			b, code := read()
			if code != impl.ErrNone || !sameBoard(b, want) {
				t.Fatal(b, code)
			}
			for i := range b.Own {
				b.Own[i] = 99
			}
			_ = append(b.Own, 55, 55, 55)
			if !slices.Equal(b.Other, want.Other) {
				t.Error("the sides share memory")
			}
			_ = append(b.Other, 66, 66, 66)
			if !slices.Equal(memory, list(1, 0, 0, 0, 1, 0, 0, 0, 77)) {
				t.Fatal(memory)
			}
		}
	}
}

// TestSidesAndBitsAreNew has lists with memory behind them.
func TestSidesAndBitsAreNew(t *testing.T) {
	v := variant(2, 1, 1, 1)
	memory := list(1, 0, 0, 77, 1, 0, 0, 88)
	before := slices.Clone(memory)
	b := impl.Board{Own: memory[0:3], Other: memory[4:7]}
	for range 2 {
		bits := impl.BoardBits(v, b)
		if !slices.Equal(bits, list(1, 0, 0, 0, 1, 0, 0, 0)) || impl.BoardId(v, b) != "iA" {
			t.Error(bits)
		}
		for i := range bits {
			bits[i] = 99
		}
		if n, code := impl.SideNumber(v, b.Own); n != 3 || code != impl.ErrNone {
			t.Error(n, code)
		}
		side, code := impl.SideOfNumber(v, 3)
		if code != impl.ErrNone || !slices.Equal(side, list(1, 0, 0)) {
			t.Error(side, code)
		}
		side[0] = 99
		if !slices.Equal(memory, before) {
			t.Fatal(memory)
		}
	}
}
