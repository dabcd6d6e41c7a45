package round

import (
	mathbits "math/bits"

	"numeral/api"
	"numeral/nat"
)

const wordBits = 64

// quotientBits is how many bits a quotient has at most; it may have one less, which is still more than a mantissa and its half need.
const quotientBits = wordBits

// fraction is m * 2^exp of a float as n and d that share no divisor. Floats have far fewer bits than a number may have, on both sides of their point: nothing is refused here.
func fraction(m uint64, exp int) (nat.Nat, nat.Nat) {
	if m == 0 {
		return nil, nat.Of(1)
	}
	shared := max(0, min(mathbits.TrailingZeros64(m), -exp))
	n, _ := nat.Shl(nat.Of(m>>shared), max(0, exp))
	d, _ := nat.Shl(nat.Of(1), max(0, -exp-shared))
	return n, d
}

// quotient is n * 2^shift by d, rounded down, of 63 or 64 bits (0 of n 0), the shift, and whether there is a rest. d is not 0.
func quotient(n, d nat.Nat) (q uint64, shift int, more bool) {
	nBits, _ := nat.Bits(n)
	dBits, _ := nat.Bits(d)
	shift = quotientBits - 1 + dBits - nBits
	// By so many bits n, moved up by the whole shift, would be longer than a number may be: these are found behind the division.
	late := max(0, quotientBits-1+dBits-api.MaxWords*wordBits)
	upper, _ := nat.Shl(n, max(0, shift-late))
	lower, _ := nat.Shl(d, max(0, late-shift))
	whole, rest, _ := nat.Div(upper, lower)
	q, _ = nat.Word(whole)
	for range late {
		q, rest = nextBit(q, rest, lower)
	}
	return q, shift, len(rest) > 0
}

// nextBit takes a quotient and its rest, which is below d, one bit further. Twice the rest might be too long: so the rest is held against what d has above it.
func nextBit(q uint64, rest, d nat.Nat) (uint64, nat.Nat) {
	above, _ := nat.Sub(d, rest)
	left, err := nat.Sub(rest, above)
	if err != nil {
		// Then twice the rest is below d, and so it is no longer.
		twice, _ := nat.Add(rest, rest)
		return q << 1, twice
	}
	return q<<1 | 1, left
}
