package hasty

import (
	"math/big"
	"strconv"
	"testing"
)

// halfWay asks it of a float and of those next to it, and tells for how many counts of digits its value is half way between two numbers, of which the even one is below it, and above.
func (f format) halfWay(t *testing.T, float uint64) (down, up int) {
	t.Helper()
	for _, float := range []uint64{float - 1, float, float + 1} {
		if float > 0 && float < f.inf() {
			f.hold(t, float)
		}
	}
	value := f.value(float)
	for n := 1; n <= most; n++ {
		even, half := nearest(value, tens[max(0, length(value)-n)])
		if half && even.Cmp(value) < 0 {
			down++
		} else if half {
			up++
		}
	}
	return down, up
}

// everyHalf asks it of the floats of a list: at least so many times one is half way with the even number below it, and above.
func (f format) everyHalf(t *testing.T, least int, list func(do func(float uint64))) {
	t.Helper()
	down, up := 0, 0
	list(func(float uint64) {
		d, u := f.halfWay(t, float)
		down, up = down+d, up+u
	})
	if down < least || up < least {
		t.Errorf("size %d: half way %d down, %d up", f.size, down, up)
	}
}

// Odd numbers of small units end in a 5.
func TestHA1HalvesBehindThePoint(t *testing.T) {
	for _, f := range formats {
		f.everyHalf(t, 100, func(do func(uint64)) {
			for odd := 1; odd < 150; odd += 2 {
				for exp := 1; exp < 20; exp++ {
					do(f.read("0x" + strconv.FormatInt(int64(odd), 16) + "p-" + strconv.Itoa(exp)))
				}
			}
		})
	}
}

// Odd ones of units with as many places as a value of at most 19 digits may have, and great odd ones.
func TestHA1HalvesOfManyDigits(t *testing.T) {
	c := chance(7)
	for _, f := range formats {
		f.everyHalf(t, 100, func(do func(uint64)) {
			for exp := 1; exp < 27; exp++ {
				// The value is odd times 5^exp units of the last place: so many digits at most.
				limit := new(big.Int).Quo(tens[19], power(5, exp)).Uint64()
				for range 20 {
					odd := c.word()%min(limit, 2*f.hidden()) | 1
					float, _ := f.of(odd)
					do(float - uint64(exp)*f.hidden())
				}
			}
		})
	}
}

// Whole numbers that are odd multiples of a 5 and noughts behind it, as great as a mantissa lets them be: those from 2^53 on, too.
func TestHA1HalvesAheadOfThePoint(t *testing.T) {
	c := chance(8)
	for _, f := range formats {
		f.everyHalf(t, 50, func(do func(uint64)) {
			for noughts := 1; power(5, noughts).Uint64() < 2*f.hidden(); noughts++ {
				fives := power(5, noughts)
				limit := 2 * f.hidden() / fives.Uint64()
				for range 30 {
					// Half of ten to the noughts is that many fives, and one two less.
					x := new(big.Int).SetUint64(c.word()%limit | 1)
					x.Mul(x, fives).Lsh(x, uint(noughts-1))
					do(f.read(x.String()))
				}
			}
		})
	}
}
