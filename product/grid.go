package product

import (
	"numeral/api"
	"numeral/bits"
)

// side says which number is meant beside one that is told: it, or one that is next to it by less than anything.
type side int

const (
	justBelow side = -1
	itself    side = 0
	justAbove side = 1
)

// grid says where the floats of a size lie: how many bits a mantissa has, and the exponent of the least float.
type grid struct {
	size, places, least int
}

// gridOf is the grid of a size, if it is one.
func gridOf(size int) (grid, bool) {
	switch size {
	case 32:
		return grid{size: size, places: 24, least: -149}, true
	case 64:
		return grid{size: size, places: 53, least: -1074}, true
	}
	return grid{}, false
}

// nearest is l * 2^exp, or what is next to it on a side, rounded.
func (g grid) nearest(l long, exp int, on side) uint64 {
	head, behind, more := l.head()
	if more {
		// What stands behind the head is more than the step to either side.
		on = justAbove
	}
	exp += behind
	drop := max(wordBits-g.places, g.least-exp)
	return g.pack(dropped(head, drop, on), exp+drop)
}

// pack is the float mant * 2^exp, or the infinity, if it is beyond all others.
func (g grid) pack(mant uint64, exp int) uint64 {
	if mant == 0 {
		return 0
	}
	float, err := bits.Pack(api.Float{Class: api.ClassFine, Mant: mant, Exp: exp}, g.size)
	if err != nil {
		float, _ = bits.Inf(false, g.size)
	}
	return float
}

// dropped is a head without its last bits, one at least, rounded half to even; on a side nothing is half way.
func dropped(head uint64, drop int, on side) uint64 {
	if drop > wordBits {
		// It is below half of a unit.
		return 0
	}
	kept := head >> drop
	rest, half := head-kept<<drop, uint64(1)<<(drop-1)
	if rest > half || rest == half && (on == justAbove || on == itself && kept%2 == 1) {
		kept++
	}
	return kept
}
