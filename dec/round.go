package dec

import (
	"strings"

	"numeral/api"
)

// Round is a number rounded to so many digits, to the nearest, of two to the even one.
func Round(d api.Dec, n int) (api.Dec, error) {
	// Where a number is Cut, the digit behind the last place must be known: by it alone the halves can be told apart.
	if !mayRound(d, n, len(d.Digits)-1) {
		return api.Dec{}, api.ErrArg
	}
	if goesOn(d, n) && roundsUp(d, n) {
		return above(d, n)
	}
	return below(d, n), nil
}

// Down is a number cut after so many digits.
func Down(d api.Dec, n int) (api.Dec, error) {
	if !mayRound(d, n, len(d.Digits)) {
		return api.Dec{}, api.ErrArg
	}
	return below(d, n), nil
}

// Up is a number rounded away from 0 to so many digits.
func Up(d api.Dec, n int) (api.Dec, error) {
	if !mayRound(d, n, len(d.Digits)) {
		return api.Dec{}, api.ErrArg
	}
	if goesOn(d, n) {
		return above(d, n)
	}
	return below(d, n), nil
}

// mayRound says whether a number may be rounded to n digits, known being the most of one that is Cut.
func mayRound(d api.Dec, n, known int) bool {
	return Valid(d) == nil && 0 <= n && n <= api.MaxDigits && (!d.Cut || n <= known)
}

// roundsUp says whether a number with digits behind its first n is nearer to what is above it, or half way with an odd digit ahead.
func roundsUp(d api.Dec, n int) bool {
	if d.Digits[n] != '5' {
		return d.Digits[n] > '5'
	}
	if goesOn(d, n+1) {
		return true
	}
	return n > 0 && (d.Digits[n-1]-'0')%2 != 0
}

// below is a number's first n digits.
func below(d api.Dec, n int) api.Dec {
	digits, _ := shorten(d.Digits[:min(n, len(d.Digits))], false)
	if digits == "" {
		return api.Dec{}
	}
	return api.Dec{Digits: digits, Point: d.Point}
}

// above is a number's first n digits, of which it has so many, and one unit of the last place more.
func above(d api.Dec, n int) (api.Dec, error) {
	// Nines become noughts, which are dropped, and the unit goes to the digit ahead of them.
	kept := strings.TrimRight(d.Digits[:n], "9")
	if kept != "" {
		last := len(kept) - 1
		return api.Dec{Digits: kept[:last] + string([]byte{kept[last] + 1}), Point: d.Point}, nil
	}
	if d.Point == api.MaxPoint {
		return api.Dec{}, api.ErrRange
	}
	return api.Dec{Digits: "1", Point: d.Point + 1}, nil
}
