package quick

import (
	"numeral/api"
	"numeral/powers"
	"numeral/wide"
)

const (
	// unitDigits is how many digits the last bit of a float has in units.
	unitDigits = 3
	// restBits is how many bits a product has behind its highest word.
	restBits = 128
)

// scale brings fourths of a float's last bit to units of ten to the place: they are multiplied by the power, and the last bits are dropped.
type scale struct {
	power       powers.Power
	place, drop int
}

// count is a number of units: whole ones, and whether there is more behind them.
type count struct {
	whole uint64
	more  bool
}

// scaleOf is the scale of floats with that exponent. Their last bit is at least 100 units, so that numbers that end in a nought lie in each interval, and less than 1000, so that floats and the ends of their intervals are less than 2^63.
func scaleOf(exp int) scale {
	length, _ := powers.Digits(exp)
	place := length - unitDigits
	// The exponents of floats are far within what powers knows.
	power, _ := powers.Of(-place)
	return scale{power: power, place: place, drop: 2 - exp - power.Exp}
}

// count is how many units so many fourths are; false: not sure.
func (s scale) count(fourths uint64) (count, bool) {
	top, rest := wide.MulWord(s.power.M, fourths)
	whole, more := s.units(top, rest)
	if s.power.Exact {
		return count{whole: whole, more: more}, true
	}
	// What was cut off the power is less than its last bit: so the number lies above this product, and below the one of the next power.
	rest, carry := wide.Add(rest, api.U128{Lo: fourths})
	if carry {
		top++
	}
	next, _ := s.units(top, rest)
	if next == whole {
		return count{whole: whole, more: true}, true
	}
	// The whole number that lies between the two may be the number itself: it is, just where ten to the place divides it. The twos always do, for the float's last bit is more than that; so the fives are asked.
	fives, err := powers.Five(s.place)
	if err == nil && fourths%fives == 0 {
		return count{whole: next}, true
	}
	return count{}, false
}

// units are the whole units of a product, and whether there is more behind them.
func (s scale) units(top uint64, rest api.U128) (uint64, bool) {
	low, more := wide.Right(rest, s.drop)
	return top<<(restBits-s.drop) | low.Lo, more
}
