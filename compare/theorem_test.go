package compare

import (
	"math/big"
	"testing"

	"numeral/api"
)

// half is Half's answer, where it answers one.
func half(t *testing.T, d api.Dec, float uint64, size int) int {
	t.Helper()
	c, err := Half(d, float, size, nil)
	if err != nil {
		t.Fatalf("Half(%s, %#x, %d): %v", told(d), float, size, err)
	}
	return c
}

// between says whether a decimal lies between both half way places of a float, or is one of both and the float's last bit is 0.
func (f format) between(t *testing.T, d api.Dec, float uint64) bool {
	t.Helper()
	even := float%2 == 0
	if float < f.inf() {
		if c := half(t, d, float, f.size); c > 0 || c == 0 && !even {
			return false
		}
	}
	if float > 0 {
		if c := half(t, d, float-1, f.size); c < 0 || c == 0 && !even {
			return false
		}
	}
	return true
}

// The answer lies between its half way places, and no other float's are about the decimal.
func TestCO5Between(t *testing.T) {
	c := chance(6)
	for _, f := range formats {
		hold := func(d api.Dec) {
			t.Helper()
			b, _ := Nearest(d, f.size, nil)
			if !f.between(t, d, b) {
				t.Errorf("Nearest(%s, %d) = %#x: it is not between its half way places", told(d), f.size, b)
			}
			for _, other := range []uint64{b - 2, b - 1, b + 1, b + 2, 0, f.one(), f.inf()} {
				if other != b && other <= f.inf() && f.between(t, d, other) {
					t.Errorf("Nearest(%s, %d) = %#x: it is between those of %#x", told(d), f.size, b, other)
				}
			}
		}
		for _, float := range f.named() {
			for _, d := range append(f.value(float).about(), f.half(float).about()...) {
				hold(d)
			}
		}
		for _, d := range someDecimals() {
			hold(d)
		}
		for range 1000 {
			hold(c.decimal(-330, 315))
			hold(c.decimal(-50, 45))
		}
	}
}

// A float's exact value is that float, whatever the point; so are all decimals up to its half way places.
func TestCO5Exact(t *testing.T) {
	for _, f := range formats {
		hold := func(float uint64) {
			d := f.value(float).exactly(t)
			wantNearest(t, d, f.size, float, nil)
			wantWith(t, d, float, f.size, 0, nil)
			if float > 0 {
				d.Cut = true
				wantNearest(t, d, f.size, float, nil)
				wantWith(t, d, float, f.size, 1, nil)
			}
		}
		for _, float := range f.named() {
			hold(float)
		}
		// Where the exponent changes, all of them.
		for float := f.hidden(); float < f.inf(); float += f.hidden() {
			hold(float - 1)
			hold(float)
		}
		f.spread(2000, hold)
	}
}

// wholesAt is a number, whose d is a power of two, times ten to the places.
func (x number) wholesAt(places int) *big.Int {
	n := new(big.Int).Mul(x.n, power(10, places))
	return n.Quo(n, x.d)
}

// It does not fall as the decimal rises in small steps, over half way places and floats, with what was cut between two steps.
func TestCO5Rising(t *testing.T) {
	const steps = 16
	c := chance(7)
	for _, f := range formats {
		hold := func(float uint64) {
			// Four places more, so that a sixteenth is whole, too.
			_, low := f.value(float).wholes()
			_, high := f.value(float + 2).wholes()
			places := max(low, high, 0) + 4
			n := f.value(float).wholesAt(places)
			step := new(big.Int).Sub(f.value(float+2).wholesAt(places), n)
			step.Quo(step, big.NewInt(steps))
			was := float
			for range steps {
				for _, cut := range []bool{false, true} {
					d, ok := decimal(n, places, cut)
					b, _ := Nearest(d, f.size, nil)
					if ok && b < was {
						t.Errorf("Nearest(%s, %d) = %#x, behind %#x", told(d), f.size, b, was)
					}
					if ok {
						was = b
					}
				}
				n = new(big.Int).Add(n, step)
			}
			d, _ := decimal(n, places, false)
			wantNearest(t, d, f.size, float+2, f.refused(float+2))
		}
		for _, float := range f.named() {
			hold(min(float, f.most()-1))
		}
		for range 100 {
			hold(c.word() % (f.inf() - 2))
		}
	}
}

// It rises with the point: each float is above the one ahead of it, till both ends.
func TestCO5RisingPoints(t *testing.T) {
	c := chance(8)
	for _, f := range formats {
		for range 20 {
			was := uint64(0)
			digits := c.digits(c.within(1, api.MaxDigits))
			for point := -330; point <= 315; point++ {
				d := api.Dec{Digits: digits, Point: point}
				b, _ := Nearest(d, f.size, nil)
				if b < was || b == was && 0 < b && b < f.inf() {
					t.Errorf("Nearest(%s, %d) = %#x, behind %#x", told(d), f.size, b, was)
				}
				was = b
			}
		}
	}
}
