package scan

import (
	"strings"

	"numeral/api"
	"numeral/base"
	"numeral/dec"
)

// As many hexadecimal digits fill a word.
const wordDigits = 16

// Dec is the decimal number of digits.
func Dec(whole, part string, exp int) api.Dec {
	digits := strings.TrimLeft(plain(whole, part), "0")
	if digits == "" {
		return api.Dec{}
	}
	// The exponent is bound ahead of the sum, too, which might wrap round else.
	point := bound(len(digits) - len(part) + bound(exp))
	// Nothing is left to refuse: these are digits, not all 0, and the point is within its bounds.
	d, _ := dec.Make(digits, point, false)
	return d
}

// plain is two rows of digits as one, with noughts in the place of bytes that are none.
func plain(whole, part string) string {
	digits := []byte(whole + part)
	for i, c := range digits {
		if c < '0' || c > '9' {
			digits[i] = '0'
		}
	}
	return string(digits)
}

// hexParts are the parts of a hexadecimal of two rows of digits.
func hexParts(whole, part string, exp int) api.Parts {
	digits := whole + part
	noughts := len(digits) - len(strings.TrimLeft(digits, "0"))
	if noughts == len(digits) {
		return api.Parts{Kind: api.TextHex}
	}
	taken := min(noughts+wordDigits, len(digits))
	var mant uint64
	for i := noughts; i < taken; i++ {
		value, _ := base.Value(digits[i])
		mant = mant<<4 | uint64(value)
	}
	return api.Parts{
		Kind: api.TextHex,
		Mant: mant,
		// Digits ahead of the point that were not taken are counted up, digits behind it that were are counted down: of these two there is never more than one.
		Exp: bound(exp + 4*(len(whole)-taken)),
		Cut: strings.TrimLeft(digits[taken:], "0") != "",
	}
}

// count is the number of a row of decimal digits, at most MaxPoint.
func count(digits string) int {
	n := 0
	for i := range len(digits) {
		n = min(n*10+int(digits[i]-'0'), api.MaxPoint)
	}
	return n
}

// bound is the number next to n from -MaxPoint to MaxPoint.
func bound(n int) int { return max(-api.MaxPoint, min(n, api.MaxPoint)) }
