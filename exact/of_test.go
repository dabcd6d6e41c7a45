package exact

import (
	"testing"

	"numeral/api"
	"numeral/nat"
	"numeral/round"
)

func TestEX1Named(t *testing.T) {
	for _, c := range []struct {
		mant      uint64
		exp, size int
		want      uint64
	}{
		{123, -2, 64, 0x3ff3ae147ae147ae},
		{1, 22, 64, 0x4480f0cf064dd592},
		{1, -22, 64, 0x3b5e392010175ee6},
		{1, -1, 64, 0x3fb999999999999a},
		{3, -1, 64, 0x3fd3333333333333},
		{1, 0, 64, 0x3ff0000000000000},
		{1 << 53, 0, 64, 0x4340000000000000},
		{1 << 53, 22, 64, 0x47d0f0cf064dd592},
		{1 << 53, -22, 64, 0x3eae392010175ee6},
		{1<<53 - 1, 22, 64, 0x47d0f0cf064dd591},
		{1<<53 - 1, -22, 64, 0x3eae392010175ee5},
		{123, -2, 32, 0x3f9d70a4},
		{1, -1, 32, 0x3dcccccd},
		{1, 10, 32, 0x501502f9},
		{1, -10, 32, 0x2edbe6ff},
		{1 << 24, 0, 32, 0x4b800000},
		{1 << 24, 10, 32, 0x5c1502f9},
		{1 << 24, -10, 32, 0x3adbe6ff},
		{1<<24 - 1, 10, 32, 0x5c1502f8},
		{1<<24 - 1, -10, 32, 0x3adbe6fe},
	} {
		wantOf(t, c.mant, c.exp, c.size, c.want, true, nil)
	}
}

// 0 is the nought without a sign, wherever its point is.
func TestEX1Noughts(t *testing.T) {
	for _, f := range formats {
		for _, exp := range namedExps() {
			wantOf(t, 0, exp, f.size, 0, true, nil)
		}
		for exp := -1100; exp <= 1100; exp++ {
			wantOf(t, 0, exp, f.size, 0, true, nil)
		}
	}
}

func TestEX1Edges(t *testing.T) {
	for _, f := range formats {
		for _, mant := range namedWords() {
			for _, exp := range namedExps() {
				f.wantRight(t, mant, exp)
			}
		}
	}
}

// Small numbers, those at the bound of either size, and many between and beyond them, with every exponent within the bounds and some beyond.
func TestEX1Many(t *testing.T) {
	c := chance(2)
	for _, f := range formats {
		for exp := -f.tens - 6; exp <= f.tens+6; exp++ {
			for n := range uint64(400) {
				f.wantRight(t, n, exp)
				f.wantRight(t, 1<<24+n-200, exp)
				f.wantRight(t, 1<<53+n-200, exp)
				f.wantRight(t, maxWord-n, exp)
				f.wantRight(t, c.upTo(f.places), exp)
				f.wantRight(t, c.word()>>(64-f.places), exp)
				f.wantRight(t, c.upTo(64), exp)
			}
		}
	}
}

// Where Of is sure, it is what layer 12 makes of the same number.
func TestEX1AsLayer12(t *testing.T) {
	for _, f := range formats {
		for _, mant := range namedWords() {
			for exp := -f.tens - 2; exp <= f.tens+2; exp++ {
				b, sure, err := Of(mant, exp, f.size)
				if !sure {
					continue
				}
				up, _ := nat.Power(10, max(exp, 0))
				down, _ := nat.Power(10, max(-exp, 0))
				n, _ := nat.Mul(nat.Of(mant), up)
				if want, refused := round.Ratio(f.size, false, n, down, 0); b != want || err != refused {
					t.Errorf("Of(%d, %d, %d) = %#x, %v, want %#x, %v", mant, exp, f.size, b, err, want, refused)
				}
			}
		}
	}
}

// A size that is none is refused ahead of all else, a mant of 0 too.
func TestEX1Sizes(t *testing.T) {
	for _, size := range noSizes {
		for _, mant := range namedWords() {
			for _, exp := range namedExps() {
				wantOf(t, mant, exp, size, 0, false, api.ErrBitSize)
			}
		}
	}
}

// Half way between two floats stand products of an odd word whose fives make it one bit too long: the answer is the one whose last bit is 0, be it the lower one or the upper one.
func TestEX1HalfWayProducts(t *testing.T) {
	for _, f := range formats {
		low, high := 0, 0
		for exp := 1; exp <= f.tens; exp++ {
			fives := power(5, exp).Uint64()
			first := (f.most()-1)/fives + 1 | 1
			count := 0
			for mant := first; mant*fives < 2*f.most() && count < 2000; mant += 2 {
				long := mant * fives
				want, _ := round.Whole(f.size, false, long/2, exp+1, false)
				if long/2%2 == 1 {
					want++
					high++
				} else {
					low++
				}
				wantOf(t, mant, exp, f.size, want, true, nil)
				f.wantRight(t, mant, exp)
				count++
			}
			if count == 0 {
				t.Errorf("none half way with ten to the %d of %d", exp, f.size)
			}
		}
		if low < 10 || high < 10 {
			t.Errorf("of size %d %d half way down, %d up", f.size, low, high)
		}
	}
}

// Quotients that lie half way between two floats have a mant beyond the bound, for it is fives times a word one bit too long: of them, too, Of is right or not sure.
func TestEX1HalfWayQuotients(t *testing.T) {
	c := chance(3)
	for _, f := range formats {
		for n := 0; n <= f.tens; n++ {
			fives := power(5, n).Uint64()
			// The first bit of all these words is that behind a float's last one.
			for range 300 {
				long := f.most() | c.word()>>(64-f.places) | 1
				if long > maxWord/fives {
					continue
				}
				mant := long * fives
				if mant <= f.most() {
					t.Errorf("%d is within the bound", mant)
				}
				for exp := -n - 3; exp <= -n+3; exp++ {
					f.wantRight(t, mant, exp)
				}
			}
		}
	}
}
