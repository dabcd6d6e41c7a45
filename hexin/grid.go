package hexin

import (
	mathbits "math/bits"

	"numeral/api"
	"numeral/bits"
)

const wordBits = 64

// farOut is an exponent for which no word makes up: with it, and further up, every number but 0 is above all floats; with its minus, and further down, every number is below half of the least one. So an exponent beyond it is brought to it, and sums with it do not wrap round.
const farOut = 2000

// grid says where the floats of a size lie: how many bits a mantissa has at most, and the exponent of the least float, below which there is none.
type grid struct {
	size, places, least int
}

// gridOf is the grid of a size.
func gridOf(size int) (grid, error) {
	most, err := bits.Most(size)
	if err != nil {
		return grid{}, err
	}
	least, _ := bits.Least(size)
	top, _ := bits.Unpack(most, size)
	bottom, _ := bits.Unpack(least, size)
	return grid{size: size, places: mathbits.Len64(top.Mant), least: bottom.Exp}, nil
}

// drop is how many of the last bits of mant * 2^exp no float has room for.
func (g grid) drop(mant uint64, exp int) int {
	return max(0, mathbits.Len64(mant)-g.places, g.least-exp)
}

// pack is the float mant * 2^exp with a sign, or the infinity with ErrRange, if it is above the greatest.
func (g grid) pack(neg bool, mant uint64, exp int) (uint64, error) {
	if mant == 0 {
		return bits.Zero(neg, g.size)
	}
	// A mantissa that was rounded up out of its places is a power of two, which has room again.
	float, err := bits.Pack(api.Float{Neg: neg, Class: api.ClassFine, Mant: mant, Exp: exp}, g.size)
	if err != nil {
		inf, _ := bits.Inf(neg, g.size)
		return inf, api.ErrRange
	}
	return float, nil
}

// dropped is mant without its last bits, rounded half to even. With more there is something behind mant, less than one more of it: half way is a whole number where a bit is dropped, so all of it lies above half way, or all of it below.
func dropped(mant uint64, drop int, more bool) uint64 {
	if drop == 0 || drop > wordBits {
		// Nothing is dropped, or all of it is, and it is below half of a unit.
		return mant >> drop
	}
	kept := mant >> drop
	rest, half := mant-kept<<drop, uint64(1)<<(drop-1)
	if rest > half || rest == half && (more || kept%2 == 1) {
		kept++
	}
	return kept
}
