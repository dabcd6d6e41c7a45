package round

import (
	mathbits "math/bits"

	"numeral/api"
	"numeral/bits"
)

// grid says where the floats of a size lie: how many bits a mantissa has at most, and the exponent of the least float, below which there is none.
type grid struct {
	size, places, least int
}

// gridOf is the grid of a size.
func gridOf(size int) (grid, error) {
	most, err := bits.Most(size)
	if err != nil {
		return grid{}, err
	}
	least, _ := bits.Least(size)
	top, _ := bits.Unpack(most, size)
	bottom, _ := bits.Unpack(least, size)
	return grid{size: size, places: mathbits.Len64(top.Mant), least: bottom.Exp}, nil
}

// nearest is m * 2^exp with a sign, rounded; with more it is a hair's breadth above that, but for m 0, to which nothing can be added that counts.
func (g grid) nearest(neg bool, m uint64, exp int, more bool) (uint64, error) {
	drop := max(0, mathbits.Len64(m)-g.places, g.least-exp)
	kept := dropped(m, drop, more)
	if kept == 0 {
		return bits.Zero(neg, g.size)
	}
	// A mantissa that was rounded up out of its places is a power of two, which has room again.
	float, err := bits.Pack(api.Float{Neg: neg, Class: api.ClassFine, Mant: kept, Exp: exp + drop}, g.size)
	if err != nil {
		inf, _ := bits.Inf(neg, g.size)
		return inf, api.ErrRange
	}
	return float, nil
}

// dropped is m without its last places, rounded half to even; with more m is a hair's breadth above itself.
func dropped(m uint64, places int, more bool) uint64 {
	// Where nothing is dropped, a hair's breadth is far from half of a unit; where more than a word is, m is below half of one.
	if places == 0 || places > wordBits {
		return m >> places
	}
	kept := m >> places
	rest, half := m-kept<<places, uint64(1)<<(places-1)
	if rest > half || rest == half && (more || kept%2 == 1) {
		kept++
	}
	return kept
}
