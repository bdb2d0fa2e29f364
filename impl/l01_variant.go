package impl

import "strconv"

const (
	ErrNone     = 0
	ErrInvalid  = 1
	ErrRange    = 2
	ErrLimit    = 3
	ErrNotFound = 4
	ErrState    = 5
	ErrSyntax   = 6
)

const (
	MaxPoints   = 24
	MaxCheckers = 15
	MaxSides    = 6
)

type Variant struct {
	Points   int64
	Checkers int64
	Home     int64
	Sides    int64
}

func (v Variant) valid() bool {
	return v.Points >= 2 && v.Points <= MaxPoints &&
		v.Checkers >= 1 && v.Checkers <= MaxCheckers &&
		v.Home >= 1 && v.Home <= v.Points &&
		v.Sides >= 1 && v.Sides <= MaxSides
}

func (v Variant) small() bool {
	return v.valid() && v.Points <= 6 && v.Checkers <= 3 && v.Sides <= 3
}

func (v Variant) homesApart() bool {
	return v.valid() && 2*v.Home <= v.Points
}

func (v Variant) text() string {
	s := strconv.FormatInt(v.Points, 10)
	for _, field := range [3]int64{v.Checkers, v.Home, v.Sides} {
		s += "/" + strconv.FormatInt(field, 10)
	}
	return s
}

// IsVariant reports whether v is valid.
func IsVariant(v Variant) bool { return v.valid() }

// IsSmallVariant reports whether v is small.
func IsSmallVariant(v Variant) bool { return v.small() }

// FullVariant returns the full game.
func FullVariant() Variant {
	return Variant{Points: MaxPoints, Checkers: MaxCheckers, Home: 6, Sides: MaxSides}
}

// HomesApart reports whether v is valid and 2 * Home is at most Points, so that the home points
// of both players are different.
func HomesApart(v Variant) bool { return v.homesApart() }

// RollKinds returns the number of different rolls of two dice, Sides * (Sides + 1) / 2, or -1 if
// v is not valid.
func RollKinds(v Variant) int64 {
	if !v.valid() {
		return -1
	}
	return v.Sides * (v.Sides + 1) / 2
}

// RollTotal returns Sides * Sides, the number of rolls if both dice are told apart, or -1 if v is
// not valid.
func RollTotal(v Variant) int64 {
	if !v.valid() {
		return -1
	}
	return v.Sides * v.Sides
}

// VariantText returns Points, Checkers, Home and Sides in decimal, separated by slashes. It
// returns the empty string if v is not valid.
func VariantText(v Variant) string {
	if !v.valid() {
		return ""
	}
	return v.text()
}

// ReadVariant returns the valid variant with the text s, and true. It returns the zero value and
// false if there is none.
func ReadVariant(s string) (Variant, bool) {
	v := scanVariant(s)
	// Only the text that v is written as counts, so that superfluous zeros, missing fields and
	// anything left over are all rejected here.
	if !v.valid() || v.text() != s {
		return Variant{}, false
	}
	return v, true
}

// scanVariant collects four numbers separated by slashes, up to the first byte that does not fit.
// A number beyond every limit takes no more digits, so that it cannot wrap around.
func scanVariant(s string) Variant {
	var fields [4]int64
	current := 0
scan:
	for i := range len(s) {
		c := s[i]
		switch {
		case c == '/' && current < len(fields)-1:
			current++
		case c >= '0' && c <= '9' && fields[current] <= MaxPoints:
			fields[current] = 10*fields[current] + int64(c-'0')
		default:
			break scan
		}
	}
	return Variant{Points: fields[0], Checkers: fields[1], Home: fields[2], Sides: fields[3]}
}
