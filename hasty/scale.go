package hasty

import (
	"numeral/api"
	"numeral/powers"
	"numeral/wide"
)

// scale brings words whose first bit is 1 to halves of ten to the place: they are multiplied by the power, and of the product's highest word the last bits are dropped, with all that stands behind it.
type scale struct {
	power       powers.Power
	place, drop int
}

// scaleOf is the scale in which a float has n digits or one more, and the float's word.
func scaleOf(f api.Float, n int) (scale, uint64) {
	// Behind the first bit of a mantissa its word has room for 63 more.
	room := wide.Lead(api.U128{Hi: f.Mant})
	exp := f.Exp - room
	// That many digits ahead of its point has the greatest power of two that is not above the float: the float has as many, or one more.
	length, _ := powers.Digits(exp + 63)
	place := length - n
	// The exponents of floats are far within what powers knows.
	power, _ := powers.Of(-place)
	// One bit more is kept for the half. What is kept is below 2^62, so that some are dropped.
	return scale{power: power, place: place, drop: -129 - exp - power.Exp}, f.Mant << room
}

// rounded is a word's number to n digits; false: not sure.
func (s scale) rounded(word uint64, n int) (api.Dec, bool) {
	h, sure := s.count(word)
	if !sure {
		return api.Dec{}, false
	}
	return h.rounded(s.place, n), true
}

// count is how many halves a word is; false: not sure.
func (s scale) count(word uint64) (halves, bool) {
	top, rest := wide.MulWord(s.power.M, word)
	whole := top >> s.drop
	if s.power.Exact {
		return halves{whole: whole, more: top != whole<<s.drop || rest != api.U128{}}, true
	}
	// What was cut off the power is less than its last bit: so the number lies above this product, and below the one of the next power.
	_, carry := wide.Add(rest, api.U128{Lo: word})
	if carry {
		top++
	}
	next := top >> s.drop
	if next == whole {
		return halves{whole: whole, more: true}, true
	}
	// The whole number that lies between the two is the number itself, just where the fives of the place divide the word: then it is a multiple of a power of two, and the two products are not that far from one another.
	fives, err := powers.Five(s.place)
	if err == nil && word%fives == 0 {
		return halves{whole: next}, true
	}
	return halves{}, false
}
