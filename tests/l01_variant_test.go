package tests

import (
	"fmt"
	"math"
	"strings"
	"testing"

	"loop.example/g00885/impl"
)

func variant(points, checkers, home, sides int64) impl.Variant {
	return impl.Variant{Points: points, Checkers: checkers, Home: home, Sides: sides}
}

// eachVariant calls f for every valid variant.
func eachVariant(f func(v impl.Variant)) {
	for points := int64(2); points <= 24; points++ {
		for checkers := int64(1); checkers <= 15; checkers++ {
			for home := int64(1); home <= points; home++ {
				for sides := int64(1); sides <= 6; sides++ {
					f(variant(points, checkers, home, sides))
				}
			}
		}
	}
}

// invalidVariants has variants that miss one limit by one, and some that miss one by far.
func invalidVariants() []impl.Variant {
	list := []impl.Variant{
		{},
		variant(1, 1, 1, 1), variant(0, 15, 6, 6), variant(-24, 15, 6, 6), variant(25, 15, 6, 6),
		variant(24, 0, 6, 6), variant(24, -15, 6, 6), variant(24, 16, 6, 6),
		variant(24, 15, 0, 6), variant(24, 15, -6, 6), variant(24, 15, 25, 6), variant(2, 1, 3, 1),
		variant(24, 15, 6, 0), variant(24, 15, 6, -6), variant(24, 15, 6, 7),
	}
	for _, n := range []int64{math.MinInt64, math.MinInt64 / 2, 1 << 32, math.MaxInt64 / 2, math.MaxInt64} {
		list = append(list, variant(n, 15, 6, 6), variant(24, n, 6, 6), variant(24, 15, n, 6),
			variant(24, 15, 6, n), variant(n, 15, n, 6), variant(n, n, n, n))
	}
	return list
}

func TestErrorCodes(t *testing.T) {
	codes := [7]int64{impl.ErrNone, impl.ErrInvalid, impl.ErrRange, impl.ErrLimit, impl.ErrNotFound, impl.ErrState, impl.ErrSyntax}
	if codes != [7]int64{0, 1, 2, 3, 4, 5, 6} {
		t.Error(codes)
	}
	if limits := [3]int64{impl.MaxPoints, impl.MaxCheckers, impl.MaxSides}; limits != [3]int64{24, 15, 6} {
		t.Error(limits)
	}
}

func TestValidVariants(t *testing.T) {
	eachVariant(func(v impl.Variant) {
		if !impl.IsVariant(v) {
			t.Errorf("%v is not valid", v)
		}
	})
	for _, v := range invalidVariants() {
		if impl.IsVariant(v) {
			t.Errorf("%v is valid", v)
		}
	}
}

func TestSmallVariants(t *testing.T) {
	eachVariant(func(v impl.Variant) {
		if want := v.Points <= 6 && v.Checkers <= 3 && v.Sides <= 3; impl.IsSmallVariant(v) != want {
			t.Errorf("%v: small is not %v", v, want)
		}
	})
	for _, v := range append(invalidVariants(), variant(1, 1, 1, 1), variant(6, 0, 6, 3), variant(6, 3, 7, 3), variant(6, 3, 0, 3), variant(6, 3, 6, 0)) {
		if impl.IsSmallVariant(v) {
			t.Errorf("%v is small", v)
		}
	}
}

func TestFullVariant(t *testing.T) {
	if v := impl.FullVariant(); v != variant(24, 15, 6, 6) {
		t.Error(v)
	}
}

func TestHomesApart(t *testing.T) {
	for _, c := range []struct {
		v    impl.Variant
		want bool
	}{
		{variant(24, 15, 6, 6), true},
		{variant(24, 15, 12, 6), true},
		{variant(24, 15, 13, 6), false},
		{variant(23, 15, 11, 6), true},
		{variant(23, 15, 12, 6), false},
		{variant(2, 1, 1, 1), true},
		{variant(2, 1, 2, 1), false},
		{variant(3, 2, 1, 2), true},
		{variant(3, 2, 2, 2), false},
	} {
		if impl.HomesApart(c.v) != c.want {
			t.Errorf("%v: not %v", c.v, c.want)
		}
	}
	for _, v := range invalidVariants() {
		if impl.HomesApart(v) {
			t.Errorf("%v is not valid, but has its homes apart", v)
		}
	}
}

func TestRollNumbers(t *testing.T) {
	eachVariant(func(v impl.Variant) {
		kinds, total := int64(0), int64(0)
		for a := int64(1); a <= v.Sides; a++ {
			for b := int64(1); b <= v.Sides; b++ {
				total++
				if a >= b {
					kinds++
				}
			}
		}
		if impl.RollKinds(v) != kinds || impl.RollTotal(v) != total {
			t.Errorf("%v: %d kinds and %d rolls", v, impl.RollKinds(v), impl.RollTotal(v))
		}
	})
	for _, v := range invalidVariants() {
		if impl.RollKinds(v) != -1 || impl.RollTotal(v) != -1 {
			t.Errorf("%v: %d kinds and %d rolls", v, impl.RollKinds(v), impl.RollTotal(v))
		}
	}
}

func TestVariantText(t *testing.T) {
	eachVariant(func(v impl.Variant) {
		if s, want := impl.VariantText(v), fmt.Sprintf("%d/%d/%d/%d", v.Points, v.Checkers, v.Home, v.Sides); s != want {
			t.Errorf("%v: %q", v, s)
		}
	})
	for _, v := range invalidVariants() {
		if s := impl.VariantText(v); s != "" {
			t.Errorf("%v: %q", v, s)
		}
	}
}

// TestVariantRecovered checks promise 1.
func TestVariantRecovered(t *testing.T) {
	eachVariant(func(v impl.Variant) {
		if got, ok := impl.ReadVariant(impl.VariantText(v)); !ok || got != v {
			t.Errorf("%v: read as %v, %v", v, got, ok)
		}
	})
}

func refuseVariantText(t *testing.T, s string) {
	t.Helper()
	if v, ok := impl.ReadVariant(s); ok || v != (impl.Variant{}) {
		t.Errorf("%.60q: read as %v, %v", s, v, ok)
	}
}

func TestReadInvalidVariant(t *testing.T) {
	for _, v := range invalidVariants() {
		refuseVariantText(t, fmt.Sprintf("%d/%d/%d/%d", v.Points, v.Checkers, v.Home, v.Sides))
	}
}

func TestReadOtherTexts(t *testing.T) {
	for _, s := range []string{
		"", "/", "///", "0/0/0/0", "////", "24", "24/15", "24/15/6", "24/15/6/", "24/15//6", "/24/15/6/6", "24/15/6/6/", "24/15/6/6/6", "24/15/6/6/0",
		"024/15/6/6", "24/015/6/6", "24/15/06/6", "24/15/6/06", "+24/15/6/6", "24/15/6/+6", "24/-15/6/6", "24/15/6/-6", "-0/15/6/6",
		" 24/15/6/6", "24/15/6/6 ", "24 /15/6/6", "24/15/6/6\n", "24/15/6/6\x00", "24,15,6,6", "24\\15\\6\\6", "24//15/6/6",
		"24.0/15/6/6", "2e1/15/6/6", "0x18/15/6/6", "2_4/15/6/6", "24/15/6/x", "x", "24/15/6/6x", "24/15/6/\xff", "２４/１５/６/６",
		"18446744073709551640/15/6/6", "4294967320/15/6/6", "24/15/6/18446744073709551622",
		strings.Repeat("0", 100000) + "24/15/6/6", strings.Repeat("9", 100000), strings.Repeat("/", 100000), "24/15/6/6" + strings.Repeat("/6", 50000),
	} {
		refuseVariantText(t, s)
	}
}

// TestReadChangedTexts changes single bytes of texts: what is read then is what has this very text.
func TestReadChangedTexts(t *testing.T) {
	texts := map[string]impl.Variant{}
	eachVariant(func(v impl.Variant) { texts[fmt.Sprintf("%d/%d/%d/%d", v.Points, v.Checkers, v.Home, v.Sides)] = v })
	check := func(s string) {
		want, found := texts[s]
		if v, ok := impl.ReadVariant(s); ok != found || v != want {
			t.Errorf("%q: read as %v, %v", s, v, ok)
		}
	}
	for _, s := range []string{"24/15/6/6", "2/1/1/1", "4/2/2/2", "10/10/10/3", "20/3/19/5"} {
		for i := 0; i <= len(s); i++ {
			for c := range 256 {
				check(s[:i] + string([]byte{byte(c)}) + s[i:])
				if i < len(s) {
					check(s[:i] + string([]byte{byte(c)}) + s[i+1:])
				}
			}
			check(s[:i])
			check(s[i:])
			if i < len(s) {
				check(s[:i] + s[i+1:])
			}
		}
	}
}
