package exact

import (
	"math"
	"math/big"
	"testing"

	"numeral/api"
)

const maxWord = math.MaxUint64

// format is what the chapter says of a size: the whole numbers up to two to the places, and the powers of ten up to that of tens.
type format struct{ size, places, tens int }

var formats = []format{{32, 24, 10}, {64, 53, 22}}

// noSizes are numbers that are no size; some of them would be one, if they were cut to fewer bits.
var noSizes = []int{0, 1, 8, 16, 24, 31, 33, 53, 63, 65, 128, -1, -32, -64, 32 << 8, 32 + 1<<32, 64 + 1<<32, 64 - 1<<32, math.MinInt, math.MaxInt, math.MinInt + 32, math.MinInt + 64}

// farOff are whole numbers beyond every bound of the chapter; some of them would be within one, if they were cut to fewer bits, or made greater than 0 by a minus.
var farOff = []int{
	math.MinInt, math.MinInt + 1, math.MinInt + 5, math.MaxInt, math.MaxInt - 1, math.MaxInt - 5,
	256, -256, 261, 1 << 16, 1 << 31, -1 << 31, 1 << 32, 1<<32 + 5, -1 << 32, 5 - 1<<32, 1 << 40, -1 << 40, 308, 309, -308, -324, -400, 400,
}

// namedExps are the exponents at the edges of both sizes, and far off.
func namedExps() []int {
	return append([]int{0, 1, -1, 9, -9, 10, -10, 11, -11, 21, -21, 22, -22, 23, -23, 24, -24, 37, -37}, farOff...)
}

// namedWords are the whole numbers at the edges of both sizes.
func namedWords() []uint64 {
	return []uint64{
		0, 1, 2, 3, 5, 9, 10, 99, 100, 123, 999999, 9999999, 16777213,
		1<<24 - 1, 1 << 24, 1<<24 + 1, 1<<24 + 2, 1 << 25, 1<<32 - 1, 1 << 32, 1<<32 + 1,
		999999999999999, 1<<53 - 2, 1<<53 - 1, 1 << 53, 1<<53 + 1, 1<<53 + 2, 1 << 54, 1<<63 - 1, 1 << 63, 1<<63 + 1, maxWord - 1, maxWord,
	}
}

// most is the greatest of the whole numbers that a size has, one behind the other.
func (f format) most() uint64 { return 1 << f.places }

// must says whether Of must be sure.
func (f format) must(mant uint64, exp int) bool {
	return mant == 0 || mant <= f.most() && -f.tens <= exp && exp <= f.tens
}

// rounded are the bits of mant times ten to the exp, by the library's great numbers. Beyond 400, up or down, no word makes up for the exponent: it is brought near.
func (f format) rounded(mant uint64, exp int) uint64 {
	exp = max(-400, min(exp, 400))
	x := new(big.Rat).SetInt(word(mant))
	if tens := new(big.Rat).SetInt(power(10, max(exp, -exp))); exp < 0 {
		x.Quo(x, tens)
	} else {
		x.Mul(x, tens)
	}
	if f.size == 32 {
		v, _ := x.Float32()
		return uint64(math.Float32bits(v))
	}
	v, _ := x.Float64()
	return math.Float64bits(v)
}

func word(m uint64) *big.Int { return new(big.Int).SetUint64(m) }

// power is b^n.
func power(b, n int) *big.Int {
	return new(big.Int).Exp(big.NewInt(int64(b)), big.NewInt(int64(n)), nil)
}

// chance is a row of words that is always the same.
type chance uint64

func (c *chance) word() uint64 {
	*c = *c*6364136223846793005 + 1442695040888963407
	x := uint64(*c)
	return x ^ x>>29 ^ x<<31
}

// upTo is a word of at most so many bits, short ones as often as long ones.
func (c *chance) upTo(bits int) uint64 {
	length := c.word() % uint64(bits+1)
	return c.word() >> (64 - length)
}

// wantRight asks that Of is sure where it must be, that it is right where it is sure, and that there is nothing beside it where it is not. It says whether Of was sure.
func (f format) wantRight(t *testing.T, mant uint64, exp int) bool {
	t.Helper()
	b, sure, err := Of(mant, exp, f.size)
	switch want := f.rounded(mant, exp); {
	case err != nil:
		t.Errorf("Of(%d, %d, %d): %v", mant, exp, f.size, err)
	case !sure && f.must(mant, exp):
		t.Errorf("Of(%d, %d, %d) is not sure", mant, exp, f.size)
	case !sure && b != 0:
		t.Errorf("Of(%d, %d, %d) is not sure, and %#x", mant, exp, f.size, b)
	case sure && b != want:
		t.Errorf("Of(%d, %d, %d) = %#x, want %#x", mant, exp, f.size, b, want)
	}
	return sure
}

func wantOf(t *testing.T, mant uint64, exp, size int, want uint64, sure bool, refused error) {
	t.Helper()
	if b, ok, err := Of(mant, exp, size); b != want || ok != sure || err != refused {
		t.Errorf("Of(%d, %d, %d) = %#x, %v, %v, want %#x, %v, %v", mant, exp, size, b, ok, err, want, sure, refused)
	}
}

func wantPower(t *testing.T, n, size int, want uint64, refused error) {
	t.Helper()
	if b, err := Power(n, size); b != want || err != refused {
		t.Errorf("Power(%d, %d) = %#x, %v, want %#x, %v", n, size, b, err, want, refused)
	}
}

func wantMost(t *testing.T, size int, mant uint64, tens int, refused error) {
	t.Helper()
	if m, n, err := Most(size); m != mant || n != tens || err != refused {
		t.Errorf("Most(%d) = %d, %d, %v, want %d, %d, %v", size, m, n, err, mant, tens, refused)
	}
}

func wantWhole(t *testing.T, mant uint64, size int, want uint64, fits bool, refused error) {
	t.Helper()
	if b, ok, err := Whole(mant, size); b != want || ok != fits || err != refused {
		t.Errorf("Whole(%d, %d) = %#x, %v, %v, want %#x, %v, %v", mant, size, b, ok, err, want, fits, refused)
	}
}

func TestEX2Most(t *testing.T) {
	wantMost(t, 32, 16777216, 10, nil)
	wantMost(t, 64, 9007199254740992, 22, nil)
	for _, size := range noSizes {
		wantMost(t, size, 0, 0, api.ErrBitSize)
	}
}

func TestEX2Power(t *testing.T) {
	wantPower(t, 0, 32, 0x3f800000, nil)
	wantPower(t, 1, 32, 0x41200000, nil)
	wantPower(t, 10, 32, 0x501502f9, nil)
	wantPower(t, 0, 64, 0x3ff0000000000000, nil)
	wantPower(t, 1, 64, 0x4024000000000000, nil)
	wantPower(t, 11, 64, 0x42374876e8000000, nil)
	wantPower(t, 22, 64, 0x4480f0cf064dd592, nil)
}

// Every power within the bounds is exact: no float but one has its value.
func TestEX2EveryPower(t *testing.T) {
	for _, f := range formats {
		for n := range f.tens + 1 {
			b, err := Power(n, f.size)
			if err != nil || f.value(b).Cmp(scaled(1, n)) != 0 {
				t.Errorf("Power(%d, %d) = %#x, %v", n, f.size, b, err)
			}
		}
	}
}

func TestEX2PowerErrors(t *testing.T) {
	for _, f := range formats {
		for _, n := range append([]int{-1, -2, -10, -22, f.tens + 1, f.tens + 2, 23, 24, 64, 100}, farOff...) {
			wantPower(t, n, f.size, 0, api.ErrArg)
		}
	}
	// 11 is out of bounds of one size alone.
	wantPower(t, 11, 32, 0, api.ErrArg)
}

// A size that is none comes first, whatever else is wrong.
func TestEX2PowerSizes(t *testing.T) {
	for _, size := range noSizes {
		for _, n := range append([]int{0, 1, 10, 11, 22, 23, -1}, farOff...) {
			wantPower(t, n, size, 0, api.ErrBitSize)
		}
	}
}

func TestEX2Whole(t *testing.T) {
	for _, c := range []struct {
		mant uint64
		size int
		want uint64
		fits bool
	}{
		{0, 32, 0, true},
		{1, 32, 0x3f800000, true},
		{123, 32, 0x42f60000, true},
		{1<<24 - 1, 32, 0x4b7fffff, true},
		{1 << 24, 32, 0x4b800000, true},
		{1<<24 + 1, 32, 0, false},
		{1<<24 + 2, 32, 0, false},
		{1 << 25, 32, 0, false},
		{1 << 32, 32, 0, false},
		{1<<32 + 1, 32, 0, false},
		{1<<53 - 1, 32, 0, false},
		{1 << 53, 32, 0, false},
		{1<<53 + 1, 32, 0, false},
		{maxWord, 32, 0, false},
		{0, 64, 0, true},
		{1, 64, 0x3ff0000000000000, true},
		{123, 64, 0x405ec00000000000, true},
		{1<<24 - 1, 64, 0x416fffffe0000000, true},
		{1 << 24, 64, 0x4170000000000000, true},
		{1<<24 + 1, 64, 0x4170000010000000, true},
		{1<<53 - 1, 64, 0x433fffffffffffff, true},
		{1 << 53, 64, 0x4340000000000000, true},
		{1<<53 + 1, 64, 0, false},
		{1<<53 + 2, 64, 0, false},
		{1 << 54, 64, 0, false},
		{1 << 63, 64, 0, false},
		{maxWord, 64, 0, false},
	} {
		wantWhole(t, c.mant, c.size, c.want, c.fits, nil)
	}
}

// Every whole number within the bounds has its own value as a float, every other one has none.
func TestEX2ManyWholes(t *testing.T) {
	c := chance(1)
	for _, f := range formats {
		list := namedWords()
		for range 20000 {
			list = append(list, c.upTo(f.places), c.upTo(64), f.most()-c.upTo(20), f.most()+c.upTo(20))
		}
		for _, m := range list {
			b, ok, err := Whole(m, f.size)
			if err != nil || ok != (m <= f.most()) {
				t.Errorf("Whole(%d, %d) = %#x, %v, %v", m, f.size, b, ok, err)
			}
			if want := scaled(m, 0); ok && f.value(b).Cmp(want) != 0 || !ok && b != 0 {
				t.Errorf("Whole(%d, %d) = %#x, %v", m, f.size, b, ok)
			}
		}
	}
}

func TestEX2WholeSizes(t *testing.T) {
	for _, size := range noSizes {
		for _, m := range namedWords() {
			wantWhole(t, m, size, 0, false, api.ErrBitSize)
		}
	}
}
