package bits

import (
	"cmp"

	"numeral/api"
)

// Floats of one sign lie in the order of their bits, from the nought to the infinity: so steps and comparisons are those of whole numbers.

// Next is the next float away from 0.
func Next(bits uint64, size int) (uint64, error) {
	class, err := Class(bits, size)
	switch {
	case err != nil:
		return 0, err
	case class == api.ClassNaN:
		return 0, api.ErrArg
	case class == api.ClassInf:
		return 0, api.ErrRange
	}
	return bits + 1, nil
}

// Prev is the next float towards 0.
func Prev(bits uint64, size int) (uint64, error) {
	class, err := Class(bits, size)
	switch {
	case err != nil:
		return 0, err
	case class == api.ClassNaN:
		return 0, api.ErrArg
	case class == api.ClassZero:
		return 0, api.ErrRange
	}
	return bits - 1, nil
}

// Compare compares two floats; 2: one is a NaN.
func Compare(a, b uint64, size int) (int, error) {
	// If one of the two is above the size's, then the greater one is.
	s, err := shapeFor(max(a, b), size)
	if err != nil {
		return 0, err
	}
	if s.class(a) == api.ClassNaN || s.class(b) == api.ClassNaN {
		return 2, nil
	}
	return cmp.Compare(s.rank(a), s.rank(b)), nil
}

// rank is a float's place among all, counted from the noughts.
func (s shape) rank(bits uint64) int64 {
	rank := int64(s.magnitude(bits))
	if s.negative(bits) {
		return -rank
	}
	return rank
}
