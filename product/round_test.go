package product

import (
	"math"
	"math/big"
	"testing"

	"numeral/nat"
	"numeral/powers"
	"numeral/round"
)

func wantRound(t *testing.T, mant uint64, e int, more bool, size int, want uint64, sure bool) {
	t.Helper()
	if got, ok := Round(mant, e, more, size); got != want || ok != sure {
		t.Errorf("Round(%d, %d, %v, %d) = %#x, %v, want %#x, %v", mant, e, more, size, got, ok, want, sure)
	}
	if got := Sure(mant, e, size); more && got != sure {
		t.Errorf("Sure(%d, %d, %d) = %v", mant, e, size, got)
	}
}

// Of all these Round must be sure.
func TestPD1Named(t *testing.T) {
	for _, c := range []struct {
		mant    uint64
		e, size int
		want    uint64
	}{
		{0, 0, 64, 0},
		{1, 0, 64, 0x3ff0000000000000},
		{15, 0, 64, 0x402e000000000000},
		{1<<53 - 1, 0, 64, 0x433fffffffffffff},
		{1 << 53, 0, 64, 0x4340000000000000},
		{1<<53 + 1, 0, 64, 0x4340000000000000},
		{1<<53 + 2, 0, 64, 0x4340000000000001},
		{1<<53 + 3, 0, 64, 0x4340000000000002},
		{1<<64 - 1<<10, 0, 64, 0x43f0000000000000},
		{1<<64 - 1<<10 - 1, 0, 64, 0x43efffffffffffff},
		{1<<64 - 3<<10, 0, 64, 0x43effffffffffffe},
		{maxWord, 0, 64, 0x43f0000000000000},
		{1, 1, 64, 0x4024000000000000},
		{1, 22, 64, 0x4480f0cf064dd592},
		{1, 23, 64, 0x44b52d02c7e14af6},
		{1, 27, 64, 0x4589d971e4fe8402},
		{maxWord, 27, 64, 0x4989d971e4fe8402},
		{0, 27, 32, 0},
		{1, 0, 32, 0x3f800000},
		{15, 0, 32, 0x41700000},
		{1 << 24, 0, 32, 0x4b800000},
		{1<<24 + 1, 0, 32, 0x4b800000},
		{1<<24 + 2, 0, 32, 0x4b800001},
		{1<<24 + 3, 0, 32, 0x4b800002},
		{maxWord, 0, 32, 0x5f800000},
		{1, 10, 32, 0x501502f9},
		{1, 27, 32, 0x6c4ecb8f},
		{340282356779, 27, 32, 0x7f7fffff},
		{340282356780, 27, 32, 0x7f800000},
		{maxWord, 27, 32, 0x7f800000},
	} {
		wantRound(t, c.mant, c.e, false, c.size, c.want, true)
	}
}

// These the chapter leaves to the program, which is sure of them.
func TestPD1NamedEnds(t *testing.T) {
	for _, c := range []struct {
		mant    uint64
		e, size int
		want    uint64
	}{
		{123, -2, 64, 0x3ff3ae147ae147ae},
		{1, -1, 64, 0x3fb999999999999a},
		{2, -324, 64, 0},
		{3, -324, 64, 1},
		{5, -324, 64, 1},
		{22250738585072011, -324, 64, 0x000fffffffffffff},
		{22250738585072014, -324, 64, 0x0010000000000000},
		{17976931348623157, 292, 64, 0x7fefffffffffffff},
		{17976931348623158, 292, 64, 0x7fefffffffffffff},
		{17976931348623159, 292, 64, 0x7ff0000000000000},
		{1, 308, 64, 0x7fe1ccf385ebc8a0},
		{1, 309, 64, 0x7ff0000000000000},
		{1, 400, 64, 0x7ff0000000000000},
		{maxWord, -400, 64, 0},
		{1, -1, 32, 0x3dcccccd},
		{7, -46, 32, 0},
		{8, -46, 32, 1},
		{1, -45, 32, 1},
		{11754942, -45, 32, 0x7fffff},
		{11754944, -45, 32, 0x800000},
		{34028235, 31, 32, 0x7f7fffff},
		{34028236, 31, 32, 0x7f800000},
		{1, 38, 32, 0x7e967699},
		{1, 39, 32, 0x7f800000},
	} {
		wantRound(t, c.mant, c.e, false, c.size, c.want, true)
	}
}

func TestPD1NamedMore(t *testing.T) {
	for _, c := range []struct {
		mant    uint64
		e, size int
		want    uint64
		sure    bool
	}{
		// From half way on there is one answer, and up to half way.
		{1 << 53, 0, 64, 0x4340000000000000, true},
		{1<<53 + 1, 0, 64, 0x4340000000000001, true},
		{1<<53 + 2, 0, 64, 0x4340000000000001, true},
		{1<<53 + 3, 0, 64, 0x4340000000000002, true},
		{1<<53 - 1, 0, 64, 0, false},
		{1, 0, 64, 0, false},
		{15, 27, 64, 0, false},
		{123, -2, 64, 0, false},
		{1234567890123456789, -18, 64, 0x3ff3c0ca428c59fb, true},
		{17976931348623157, 292, 64, 0x7fefffffffffffff, true},
		{17976931348623158, 292, 64, 0, false},
		{17976931348623159, 292, 64, 0x7ff0000000000000, true},
		{1, 309, 64, 0x7ff0000000000000, true},
		{1, -324, 64, 0, true},
		{2, -324, 64, 0, false},
		{3, -324, 64, 1, true},
		{1 << 24, 0, 32, 0x4b800000, true},
		{1<<24 + 1, 0, 32, 0x4b800001, true},
		{1<<24 - 1, 0, 32, 0, false},
		{34028235, 31, 32, 0, false},
		{34028236, 31, 32, 0x7f800000, true},
		{6, -46, 32, 0, true},
		{7, -46, 32, 0, false},
		{maxWord, 0, 64, 0x43f0000000000000, true},
		{maxWord, math.MaxInt, 64, 0x7ff0000000000000, true},
		{maxWord, math.MinInt, 64, 0, true},
	} {
		wantRound(t, c.mant, c.e, true, c.size, c.want, c.sure)
	}
}

// 0 is 0 with every exponent; with more it lies below ten to the e, which is below half of the least float, or is not.
func TestPD1Noughts(t *testing.T) {
	for _, f := range formats {
		last := map[int]int{32: -46, 64: -324}[f.size]
		hold := func(e int) {
			wantRound(t, 0, e, false, f.size, 0, true)
			wantRound(t, 0, e, true, f.size, 0, e <= last)
			f.wantRight(t, 0, e)
		}
		for e := -1200; e <= 1200; e++ {
			hold(e)
		}
		for _, e := range farExps {
			hold(e)
		}
	}
}

// Named words with every exponent of the floats, beyond both ends, and far beyond.
func TestPD1Edges(t *testing.T) {
	for _, f := range formats {
		exps := farExps
		for e := map[int]int{32: -72, 64: -350}[f.size]; e <= map[int]int{32: 42, 64: 312}[f.size]; e++ {
			exps = append(exps, e)
		}
		for _, e := range exps {
			for _, mant := range namedWords() {
				f.wantRight(t, mant, e)
			}
		}
	}
}

// Far beyond all floats there is no doubt, with more or without.
func TestPD1FarBeyond(t *testing.T) {
	for _, f := range formats {
		for _, mant := range namedWords() {
			for _, e := range farExps {
				want := f.inf()
				if e < 0 || mant == 0 {
					want = 0
				}
				wantRound(t, mant, e, false, f.size, want, true)
				wantRound(t, mant, e, true, f.size, want, mant != 0 || e < 0)
			}
		}
	}
}

// What is no size makes nothing sure, 0 neither.
func TestPD1Sizes(t *testing.T) {
	for _, size := range noSizes {
		for _, mant := range namedWords() {
			for _, e := range append([]int{0, 1, -1, 22, 27, 28, 308, 309, -324}, farExps...) {
				wantRound(t, mant, e, false, size, 0, false)
				wantRound(t, mant, e, true, size, 0, false)
			}
		}
	}
}

// ends are numbers at which the floats change their kind, in halves of the least float: that half, the least float, what is between it and the next; the least one that is not denormal, and half a unit below; the greatest one, half a unit above it, a whole one.
func (f format) ends() []*big.Int {
	normal := power(2, f.places)
	unit := power(2, int(f.inf()>>(f.places-1))-1)
	beyond := new(big.Int).Mul(normal, unit)
	half := new(big.Int).Sub(beyond, new(big.Int).Rsh(unit, 1))
	return []*big.Int{
		big.NewInt(1), big.NewInt(2), big.NewInt(3),
		new(big.Int).Sub(normal, big.NewInt(1)), normal,
		new(big.Int).Sub(beyond, unit), half, beyond,
	}
}

// Words with every exponent that brings them near to an end.
func TestPD1Ends(t *testing.T) {
	for _, f := range formats {
		for i, end := range f.ends() {
			count := 0
			for e := -370; e <= 330; e++ {
				// The end is end * 2^(least-1), the number mant * 10^e.
				n, d := fraction(big.NewInt(1), -e)
				n.Mul(n, end)
				d.Lsh(d, uint(1-f.least))
				mant := n.Div(n, d)
				if mant.BitLen() > 64 || mant.Sign() == 0 && e > 312 {
					continue
				}
				for near := -3; near <= 3; near++ {
					if m := new(big.Int).Add(mant, big.NewInt(int64(near))); m.IsUint64() {
						f.wantRight(t, m.Uint64(), e)
						count++
					}
				}
			}
			if count < 100 {
				t.Errorf("end %d of size %d: %d numbers near it", i, f.size, count)
			}
		}
	}
}

func TestPD1Many(t *testing.T) {
	c := chance(2)
	for _, f := range formats {
		for range 60000 {
			f.wantRight(t, c.upTo(64), c.within(-345, 310))
			f.wantRight(t, c.upTo(64), c.within(-66, 40))
			f.wantRight(t, c.upTo(64), c.within(-1, mostSure+1))
			f.wantRight(t, c.upTo(20), c.within(-30, 30))
		}
	}
}

// A road that is never sure would keep the promise beyond 27; this one is worth going.
func TestPD1SureOfMost(t *testing.T) {
	c := chance(3)
	for _, f := range formats {
		more, all := 0, 20000
		for range all {
			mant, e := c.word()|1<<63, c.within(-330, 300)
			sure, sureOfMore := f.wantRight(t, mant, e)
			if !sure {
				t.Errorf("Round(%d, %d, false, %d) is not sure", mant, e, f.size)
			}
			if sureOfMore {
				more++
			}
		}
		if more < all*99/100 || f.size == 64 && more == all {
			t.Errorf("of size %d %d of %d are sure with more", f.size, more, all)
		}
	}
}

// Where Round is sure, it is what layer 12 makes of the same number.
func TestPD1AsLayer12(t *testing.T) {
	c := chance(4)
	for _, f := range formats {
		for _, mant := range namedWords() {
			for range 12 {
				e := c.within(-345, 310)
				got, sure := Round(mant, e, false, f.size)
				if !sure {
					continue
				}
				up, _ := nat.Power(10, max(e, 0))
				down, _ := nat.Power(10, max(-e, 0))
				n, _ := nat.Mul(nat.Of(mant), up)
				if want, _ := round.Ratio(f.size, false, n, down, 0); got != want {
					t.Errorf("Round(%d, %d, false, %d) = %#x, want %#x", mant, e, f.size, got, want)
				}
			}
		}
	}
}

func (l long) whole() *big.Int {
	x := new(big.Int)
	for _, w := range l {
		x.Lsh(x, 64).Add(x, word(w))
	}
	return x
}

// The bounds have room in 192 bits, and the number lies between them.
func TestBounds(t *testing.T) {
	for e := -400; e <= 400; e++ {
		p, _ := powers.Of(e)
		m := new(big.Int).Lsh(word(p.M.Hi), 64)
		m.Add(m, word(p.M.Lo))
		above := new(big.Int).Set(m)
		if !p.Exact {
			above.Add(above, big.NewInt(1))
		}
		for _, mant := range []uint64{0, 1, 2, 1<<63 - 1, 1 << 63, maxWord - 1, maxWord} {
			next := new(big.Int).Add(word(mant), big.NewInt(1))
			low, high := bounds(mant, false, p)
			if low.whole().Cmp(new(big.Int).Mul(m, word(mant))) != 0 || high.whole().Cmp(new(big.Int).Mul(above, word(mant))) != 0 {
				t.Errorf("bounds(%d, false) of 10^%d: %x, %x", mant, e, low, high)
			}
			low, high = bounds(mant, true, p)
			if low.whole().Cmp(new(big.Int).Mul(m, word(mant))) != 0 || high.whole().Cmp(next.Mul(above, next)) != 0 {
				t.Errorf("bounds(%d, true) of 10^%d: %x, %x", mant, e, low, high)
			}
		}
	}
}
