package interval

import (
	"numeral/api"
	"numeral/bits"
	"numeral/dec"
	"numeral/nat"
)

// span is a float's interval: its ends, and whether they belong to it.
type span struct {
	low, high api.Dec
	closed    bool
}

// spanOf is the interval of a float.
func spanOf(float uint64, size int) (span, error) {
	f, err := finite(float, size)
	if err != nil {
		return span{}, err
	}
	return span{low: lowEnd(float, size), high: highEnd(f), closed: float%2 == 0}, nil
}

// holds says whether a number that is not Cut lies in the interval.
func (s span) holds(d api.Dec) bool {
	fromLow, _ := dec.Compare(d, s.low)
	fromHigh, _ := dec.Compare(d, s.high)
	if s.closed {
		return fromLow >= 0 && fromHigh <= 0
	}
	return fromLow > 0 && fromHigh < 0
}

// finite are the parts of a float that is neither infinite nor NaN: a nought's, too, are a mantissa and an exponent.
func finite(float uint64, size int) (api.Float, error) {
	f, err := bits.Unpack(float, size)
	if err != nil {
		return api.Float{}, err
	}
	switch f.Class {
	case api.ClassFine:
		return f, nil
	case api.ClassZero:
		// A nought counts by the unit of the floats next to it.
		least, _ := bits.Least(size)
		next, _ := bits.Unpack(least, size)
		f.Exp = next.Exp
		return f, nil
	}
	return api.Float{}, api.ErrArg
}

// lowEnd is where the interval of the float below ends, so that nothing lies between both, however near that float is; below a nought there is none.
func lowEnd(float uint64, size int) api.Dec {
	below, err := bits.Prev(float, size)
	if err != nil {
		return api.Dec{}
	}
	f, _ := finite(below, size)
	return highEnd(f)
}

// highEnd is half way to the next float up, which is one unit of the mantissa further, even where the exponent changes there, or where no float is any more.
func highEnd(f api.Float) api.Dec { return decimal(2*f.Mant+1, f.Exp-1) }

// decimal is mant * 2^exp, to its last digit. Floats and what is half way between them have fewer words than a big number may have, and fewer digits than a decimal keeps: nothing is refused or cut here.
func decimal(mant uint64, exp int) api.Dec {
	// Behind the point two to the -n is five to the n, n places further down.
	places := max(0, -exp)
	fives, _ := nat.Power(5, places)
	whole, _ := nat.Mul(nat.Of(mant), fives)
	whole, _ = nat.Shl(whole, max(0, exp))
	digits, _ := nat.Digits(whole, 10)
	d, _ := dec.Make(digits, len(digits)-places, false)
	return d
}
