package interval

import (
	"math"
	"math/big"
	"testing"

	"numeral/api"
)

func TestIV2Between(t *testing.T) {
	for _, c := range []struct {
		float uint64
		size  int
		count int // the fewest digits that lie there
	}{
		{1, 64, 1}, {2, 64, 1}, {3, 64, 2}, {1, 32, 1}, {0x3ff0000000000000, 64, 1}, {0x3f800000, 32, 1},
		{0x3fb999999999999a, 64, 1}, {0x3fb9999999999999, 64, 16}, {0x3fd3333333333334, 64, 17}, {0x3fd3333333333333, 64, 1},
		{0x7f7fffff, 32, 8}, {0x7fefffffffffffff, 64, 17}, {0x4b7fffff, 32, 8}, {0x4b800000, 32, 8},
		{0x000fffffffffffff, 64, 16}, {0x0010000000000000, 64, 17}, {0x007fffff, 32, 8}, {0x00800000, 32, 8},
		{0x4340000000000000, 64, 16}, {0x4340000000000001, 64, 16},
		// One digit is the end of both: it belongs to one of them.
		{0x44b52d02c7e14af6, 64, 1}, {0x44b52d02c7e14af7, 64, 17},
		// The nearest number of so many digits is below these powers of two, and out; one farther off above them is in.
		{0x0060000000000000, 64, 16}, {0x0f800000, 32, 8},
	} {
		f := formats[c.size/64]
		for digits := 1; digits <= 17; digits++ {
			for _, float := range f.signed(c.float) {
				wantBetween(t, float, c.size, digits, digits >= c.count, nil)
			}
		}
	}
}

// fewest is how many digits a number in a float's interval has at least, by whole numbers.
func (f format) fewest(float uint64) int {
	low, high := f.ends(float)
	low, high = tens(low), tens(high)
	if float%2 != 0 {
		// Between the ends alone.
		low.Add(low, big.NewInt(1))
		high.Sub(high, big.NewInt(1))
	}
	// From the greatest step on: the first of which a multiple lies there.
	for behind := len(high.String()) - 1; ; behind-- {
		step := power(10, behind)
		multiple := new(big.Int).Quo(high, step)
		if multiple.Sign() > 0 && new(big.Int).Mul(multiple, step).Cmp(low) >= 0 {
			return len(multiple.String())
		}
	}
}

// wantFewest asks Between for every count of digits.
func (f format) wantFewest(t *testing.T, float uint64, count int) {
	t.Helper()
	for digits := 1; digits <= 17; digits++ {
		for _, float := range f.signed(float) {
			wantBetween(t, float, f.size, digits, digits >= count, nil)
		}
	}
}

func TestIV2EveryKind(t *testing.T) {
	for _, f := range formats {
		f.everyKind(500, func(float uint64) {
			if float == 0 {
				return
			}
			count := f.fewest(float)
			if library := f.shortest(float); count != library {
				t.Errorf("%#x of %d: what it is held against, %d digits, is %d of the library", float, f.size, count, library)
			}
			f.wantFewest(t, float, count)
		})
	}
}

// Floats of each count of digits: so many are just enough.
func TestIV2EveryCount(t *testing.T) {
	c := chance(2)
	for _, f := range formats {
		most := map[int]int{32: 9, 64: 17}[f.size]
		var seen [18]int
		for count := 1; count <= most; count++ {
			for range 3000 {
				d := c.decimal(-40, 38)
				d.Digits = d.Digits[:min(count, len(d.Digits))]
				float := f.read(d)
				fewest := f.shortest(float)
				if seen[fewest] < 40 && float > 0 && float < f.inf() {
					seen[fewest]++
					f.wantFewest(t, float, fewest)
				}
			}
			if seen[count] == 0 {
				t.Errorf("no float of %d has %d digits", f.size, count)
			}
		}
	}
}

func TestIV2Errors(t *testing.T) {
	for _, f := range formats {
		for _, digits := range []int{0, -1, 18, 19, 100, -17, 800, 1 << 32, 1<<32 + 9, 9 - 1<<32, math.MaxInt, math.MinInt} {
			for _, float := range f.named() {
				for _, float := range f.signed(float) {
					wantBetween(t, float, f.size, digits, false, api.ErrArg)
				}
			}
			for _, size := range noSizes {
				wantBetween(t, f.one(), size, digits, false, api.ErrBitSize)
				wantBetween(t, 0, size, digits, false, api.ErrBitSize)
			}
		}
		for digits := -2; digits <= 20; digits++ {
			for _, nought := range f.signed(0) {
				wantBetween(t, nought, f.size, digits, false, api.ErrArg)
			}
		}
	}
}
