package bits

import (
	"math/bits"

	"numeral/api"
)

// shape says where the parts of a size's floats lie: sign is the sign's bit, inf are the bits of the exponent, which are those of the infinity, too, and mant is how many bits of the mantissa are behind them. least is the exponent of the least float.
type shape struct {
	sign, inf   uint64
	mant, least int
}

// single is the shape of floats of 32 bits.
func single() shape {
	return shape{sign: 1 << 31, inf: 0xff << 23, mant: 23, least: -149}
}

// double is the shape of floats of 64 bits.
func double() shape {
	return shape{sign: 1 << 63, inf: 0x7ff << 52, mant: 52, least: -1074}
}

// shapeOf is the shape of a size.
func shapeOf(size int) (shape, error) {
	switch size {
	case 32:
		return single(), nil
	case 64:
		return double(), nil
	}
	return shape{}, api.ErrBitSize
}

// shapeFor is the shape of a size, if a float of it has these bits.
func shapeFor(word uint64, size int) (shape, error) {
	s, err := shapeOf(size)
	if err != nil {
		return shape{}, err
	}
	if word > s.sign|(s.sign-1) {
		return shape{}, api.ErrArg
	}
	return s, nil
}

// hidden is the bit ahead of a mantissa that the bits do not tell.
func (s shape) hidden() uint64 { return 1 << s.mant }

// mostExp is the exponent of the greatest finite float.
func (s shape) mostExp() int { return s.least + int(s.inf>>s.mant) - 2 }

// nan is the canonical NaN.
func (s shape) nan() uint64 { return s.inf | s.hidden()>>1 }

func (s shape) negative(word uint64) bool { return word&s.sign != 0 }

// magnitude is a float without its sign.
func (s shape) magnitude(word uint64) uint64 { return word &^ s.sign }

// signed is a magnitude with a sign.
func (s shape) signed(magnitude uint64, neg bool) uint64 {
	if neg {
		return magnitude | s.sign
	}
	return magnitude
}

func (s shape) class(word uint64) int {
	switch magnitude := s.magnitude(word); {
	case magnitude == 0:
		return api.ClassZero
	case magnitude < s.inf:
		return api.ClassFine
	case magnitude == s.inf:
		return api.ClassInf
	}
	return api.ClassNaN
}

// unpack are the parts of a float.
func (s shape) unpack(word uint64) api.Float {
	f := api.Float{Neg: s.negative(word), Class: s.class(word)}
	switch f.Class {
	case api.ClassNaN:
		f.Neg = false
	case api.ClassFine:
		f.Mant, f.Exp = s.fine(s.magnitude(word))
	}
	return f
}

// fine are the mantissa and the exponent of a finite magnitude.
func (s shape) fine(magnitude uint64) (uint64, int) {
	above := int(magnitude >> s.mant)
	mant := magnitude & (s.hidden() - 1)
	if above == 0 {
		return mant, s.least
	}
	return mant | s.hidden(), s.least + above - 1
}

// pack is the float with these parts.
func (s shape) pack(f api.Float) (uint64, error) {
	switch f.Class {
	case api.ClassZero:
		return s.signed(0, f.Neg), nil
	case api.ClassInf:
		return s.signed(s.inf, f.Neg), nil
	case api.ClassNaN:
		return s.nan(), nil
	case api.ClassFine:
		magnitude, err := s.exactly(f.Mant, f.Exp)
		if err != nil {
			return 0, err
		}
		return s.signed(magnitude, f.Neg), nil
	}
	return 0, api.ErrArg
}

// exactly is the magnitude that is mant * 2^exp.
func (s shape) exactly(mant uint64, exp int) (uint64, error) {
	if mant == 0 {
		return 0, api.ErrArg
	}
	// Then 2^exp alone is above all floats, and the sums below might wrap round with it.
	if exp > s.mostExp()+s.mant {
		return 0, api.ErrRange
	}
	up := s.room(mant, exp)
	if bits.TrailingZeros64(mant) < -up || exp-up > s.mostExp() {
		return 0, api.ErrRange
	}
	return s.lay(mant<<max(up, 0)>>max(-up, 0), exp-up), nil
}

// nearest is the magnitude nearest to mant * 2^exp, and whether it is the same; mant is not 0 and has more bits than lie in the shape, or exp is below its least.
func (s shape) nearest(mant uint64, exp int) (uint64, bool) {
	drop := -s.room(mant, exp)
	if drop > bits.Len64(mant) {
		// This is less than half of the least float.
		return 0, false
	}
	kept := mant >> drop
	rest, half := mant-kept<<drop, uint64(1)<<(drop-1)
	if rest > half || rest == half && kept%2 == 1 {
		kept++
	}
	if exp+drop > s.mostExp() {
		return s.inf, false
	}
	// A mantissa that was rounded up out of its bits comes to the next exponent by itself, behind the greatest to the infinity.
	return s.lay(kept, exp+drop), rest == 0
}

// room is by how many bits mant is to go up (down, if it is below 0) to stand as floats have it: with its first bit in the hidden one's place, or lower with the least exponent.
func (s shape) room(mant uint64, exp int) int {
	return min(s.mant+1-bits.Len64(mant), exp-s.least)
}

// lay is the magnitude of a mantissa that stands so, with its exponent. The hidden bit counts the exponent up by one: floats without it have the same exponent as the least ones with it.
func (s shape) lay(mant uint64, exp int) uint64 {
	return uint64(exp-s.least)<<s.mant + mant
}
