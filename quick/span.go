package quick

import (
	"strconv"

	"numeral/api"
)

// span is a float's interval in units: the least and the greatest whole number there, and the float's value.
type span struct {
	least, most uint64
	value       count
}

// shortest are the digits of a float whose interval ends so many fourths of its last bit below it; false: not sure.
func (s scale) shortest(f api.Float, below uint64) (api.Dec, bool) {
	r, sure := s.span(f, below)
	if !sure {
		return api.Dec{}, false
	}
	step, noughts := r.step()
	digits := strconv.FormatUint(r.nearest(step), 10)
	return api.Dec{Digits: digits, Point: len(digits) + noughts + s.place}, true
}

// span is the interval of that float; false: not sure.
func (s scale) span(f api.Float, below uint64) (span, bool) {
	fourths := 4 * f.Mant
	low, sureOfLow := s.count(fourths - below)
	value, sure := s.count(fourths)
	high, sureOfHigh := s.count(fourths + 2)
	if !sureOfLow || !sure || !sureOfHigh {
		return span{}, false
	}
	// The ends belong to a float whose last bit is 0.
	closed := f.Mant%2 == 0
	r := span{least: low.whole, most: high.whole, value: value}
	if low.more || !closed {
		r.least++
	}
	if !high.more && !closed {
		r.most--
	}
	return r, true
}

// step is the greatest power of ten of which a multiple lies there, and how many noughts it has. (All there is below 2^63, so ten times a step has room in a word.) Such multiples have the fewest digits, for all numbers there are of one length, if they do not lie on both sides of a power of ten. If they do, those below it with one digit have as few; but of such there are only in two floats' intervals, that of the least float of size 32 and that of the second one of 64, and both floats are nearer to the power.
func (r span) step() (uint64, int) {
	step, noughts := uint64(1), 0
	for r.holdsMultiple(10 * step) {
		step *= 10
		noughts++
	}
	return step, noughts
}

// holdsMultiple says whether a multiple of a step lies there.
func (r span) holdsMultiple(step uint64) bool { return r.most/step*step >= r.least }

// nearest is how many steps make the multiple that is nearest to the value of those that lie there, of two as near the even one. A step is even itself, for a multiple of ten lies in each interval.
func (r span) nearest(step uint64) uint64 {
	times := r.value.whole / step
	rest, half := r.value.whole-times*step, step/2
	if rest > half || rest == half && (r.value.more || times%2 == 1) {
		times++
	}
	// Where the nearest one is out, the next one up is not: at powers of two an interval reaches farther up than down, and nowhere the other way round.
	if times*step < r.least {
		times++
	}
	return times
}
