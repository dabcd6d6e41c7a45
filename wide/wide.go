// Package wide is layer 1: numbers of 128 bits: see shared/doc/01-wide.md.
package wide

import (
	"math/bits"

	"numeral/api"
)

const (
	wordBits = 64
	allBits  = 2 * wordBits
	// 2^128 - 1 has 39 digits, and no number here has more.
	maxDigits = 39
)

// Mul is the product of two numbers of 64 bits.
func Mul(a, b uint64) api.U128 {
	hi, lo := bits.Mul64(a, b)
	return api.U128{Hi: hi, Lo: lo}
}

// Add is a sum, and whether it passed 128 bits.
func Add(a, b api.U128) (api.U128, bool) {
	lo, carry := bits.Add64(a.Lo, b.Lo, 0)
	hi, carry := bits.Add64(a.Hi, b.Hi, carry)
	return api.U128{Hi: hi, Lo: lo}, carry != 0
}

// Sub is a difference, and whether it passed below 0.
func Sub(a, b api.U128) (api.U128, bool) {
	lo, borrow := bits.Sub64(a.Lo, b.Lo, 0)
	hi, borrow := bits.Sub64(a.Hi, b.Hi, borrow)
	return api.U128{Hi: hi, Lo: lo}, borrow != 0
}

// Compare compares two.
func Compare(a, b api.U128) int {
	if a == b {
		return 0
	}
	if a.Hi < b.Hi || a.Hi == b.Hi && a.Lo < b.Lo {
		return -1
	}
	return 1
}

// Left is a number shifted up, what passes 128 bits cut off.
func Left(a api.U128, n int) api.U128 {
	if n <= 0 {
		return a
	}
	if n >= allBits {
		return api.U128{}
	}
	if n >= wordBits {
		return api.U128{Hi: a.Lo << (n - wordBits)}
	}
	return api.U128{Hi: a.Hi<<n | a.Lo>>(wordBits-n), Lo: a.Lo << n}
}

// Right is a number shifted down, and whether a bit that was 1 fell out.
func Right(a api.U128, n int) (api.U128, bool) {
	if n <= 0 {
		return a, false
	}
	// Not Trail alone: of 0 nothing is cut, however far it is shifted.
	cut := a != api.U128{} && Trail(a) < n
	return down(a, n), cut
}

// down shifts by an n above 0.
func down(a api.U128, n int) api.U128 {
	if n >= allBits {
		return api.U128{}
	}
	if n >= wordBits {
		return api.U128{Lo: a.Hi >> (n - wordBits)}
	}
	return api.U128{Hi: a.Hi >> n, Lo: a.Lo>>n | a.Hi<<(wordBits-n)}
}

// Lead is how many bits ahead of the first one that is 1.
func Lead(a api.U128) int {
	if a.Hi != 0 {
		return bits.LeadingZeros64(a.Hi)
	}
	return wordBits + bits.LeadingZeros64(a.Lo)
}

// Trail is how many bits behind the last one that is 1.
func Trail(a api.U128) int {
	if a.Lo != 0 {
		return bits.TrailingZeros64(a.Lo)
	}
	return wordBits + bits.TrailingZeros64(a.Hi)
}

// MulWord is a product of a number of 128 bits and one of 64: its highest 64 bits, and the rest.
func MulWord(a api.U128, b uint64) (uint64, api.U128) {
	low := Mul(a.Lo, b)
	high := Mul(a.Hi, b)
	mid, carry := bits.Add64(high.Lo, low.Hi, 0)
	// The whole product is below 2^192, so this can't wrap round.
	return high.Hi + carry, api.U128{Hi: mid, Lo: low.Lo}
}

// DivWord is a quotient and what is left.
func DivWord(a api.U128, b uint64) (api.U128, uint64, error) {
	if b == 0 {
		return api.U128{}, 0, api.ErrZero
	}
	q, left := divide(a, b)
	return q, left, nil
}

// divide is DivWord of a b that is not 0.
func divide(a api.U128, b uint64) (api.U128, uint64) {
	hi, left := a.Hi/b, a.Hi%b
	// What is left is below b, which is what Div64 asks for.
	lo, left := bits.Div64(left, a.Lo, b)
	return api.U128{Hi: hi, Lo: lo}, left
}

// Text is a number in decimal digits.
func Text(a api.U128) string {
	// Digits come out lowest first, so the array is filled from its end.
	var digits [maxDigits]byte
	first := maxDigits - 1
	a, d := divide(a, 10)
	digits[first] = '0' + byte(d)
	for a != (api.U128{}) {
		a, d = divide(a, 10)
		first--
		digits[first] = '0' + byte(d)
	}
	return string(digits[first:])
}

// Read is the number of decimal digits.
func Read(s string) (api.U128, error) {
	// The whole text is looked at first: a wrong byte behind too many digits is still a wrong text.
	if !isNumber(s) {
		return api.U128{}, api.ErrSyntax
	}
	var a api.U128
	for i := range len(s) {
		over, tens := MulWord(a, 10)
		sum, cut := Add(tens, api.U128{Lo: uint64(s[i] - '0')})
		if over != 0 || cut {
			return api.U128{}, api.ErrRange
		}
		a = sum
	}
	return a, nil
}

// isNumber says whether s is digits, one at least, with no needless nought ahead.
func isNumber(s string) bool {
	if s == "" || s[0] == '0' && s != "0" {
		return false
	}
	for i := range len(s) {
		if s[i] < '0' || s[i] > '9' {
			return false
		}
	}
	return true
}
