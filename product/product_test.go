package product

import (
	"math"
	"math/big"
	"strconv"
	"strings"
	"testing"
)

const maxWord = math.MaxUint64

// format is what IEEE 754 says of a size.
type format struct{ size, places, least int }

var formats = []format{{32, 24, -149}, {64, 53, -1074}}

// noSizes are numbers that are no size; some of them would be one, if they were cut to fewer bits.
var noSizes = []int{0, -1, 1, 8, 16, 24, 31, 33, 53, 63, 65, 128, -32, -64, 32 << 8, 32 + 1<<32, 64 + 1<<32, 64 - 1<<32, math.MinInt, math.MaxInt, math.MinInt + 32, math.MinInt + 64}

// farExps are exponents beyond those of all floats, and beyond the powers of layer 13; some of them would be near 0, if they were cut to fewer bits, or made greater than 0 by a minus.
var farExps = []int{
	math.MinInt, math.MinInt + 1, math.MinInt + 27, math.MaxInt, math.MaxInt - 1, math.MaxInt - 27,
	399, 400, 401, -399, -400, -401, 512, -512, 1100, -1100, 1 << 16, -1 << 16, 1 << 31, -1 << 31, 1 << 32, 1<<32 + 27, -1 << 32, 5 - 1<<32, 1 << 40, -1 << 40,
}

// mostSure is the last exponent, from 0 on, with which Round must be sure.
const mostSure = 27

// namedWords are 0, the powers of two, one more and one less of each, the powers of ten likewise, and the greatest words.
func namedWords() []uint64 {
	list := []uint64{0, 7, 15, 123, 16777213, 999999999999999, maxWord - 1, maxWord, 1e19}
	for i := range 64 {
		list = append(list, 1<<i-1, 1<<i, 1<<i+1)
	}
	for p := uint64(10); p < 1e19; p *= 10 {
		list = append(list, p-1, p, p+1)
	}
	return list
}

func (f format) inf() uint64 { return 1<<(f.size-1) - 1<<(f.places-1) }

func word(m uint64) *big.Int { return new(big.Int).SetUint64(m) }

// power is b^n.
func power(b, n int) *big.Int {
	return new(big.Int).Exp(big.NewInt(int64(b)), big.NewInt(int64(n)), nil)
}

// fraction is mant times ten to the e, as n / d. Beyond 400, up or down, no word makes up for the exponent: it is brought near.
func fraction(mant *big.Int, e int) (n, d *big.Int) {
	e = max(-400, min(e, 400))
	return new(big.Int).Mul(mant, power(10, max(e, 0))), power(10, max(-e, 0))
}

// inUnits is n / d in units of 2^unit: the whole ones, and how what is left stands to half of one.
func inUnits(n, d *big.Int, unit int) (*big.Int, int) {
	n = new(big.Int).Lsh(n, uint(max(0, -unit)))
	d = new(big.Int).Lsh(d, uint(max(0, unit)))
	q, r := n.QuoRem(n, d, new(big.Int))
	return q, r.Lsh(r, 1).Cmp(d)
}

// rounded is n / d, or what is next to it on a side, rounded, by whole numbers alone.
func (f format) rounded(n, d *big.Int, on side) uint64 {
	if n.Sign() == 0 {
		return 0
	}
	// The quotient in these units has as many bits as a float, or one more.
	unit := max(f.least, n.BitLen()-d.BitLen()-f.places)
	q, half := inUnits(n, d, unit)
	if q.BitLen() > f.places {
		unit++
		q, half = inUnits(n, d, unit)
	}
	float := q.Uint64()
	if half > 0 || half == 0 && (on == justAbove || on == itself && float%2 == 1) {
		float++
	}
	// The first bit of what is not denormal counts as one more exponent.
	return min(f.inf(), float+uint64(unit-f.least)<<(f.places-1))
}

// kind are the floats that the numbers of a kind are rounded to: the number itself, without more; with more the least of them and the greatest.
func (f format) kind(mant uint64, e int) (plain, least, most uint64) {
	n, d := fraction(word(mant), e)
	plain, least = f.rounded(n, d, itself), f.rounded(n, d, justAbove)
	n, d = fraction(new(big.Int).Add(word(mant), big.NewInt(1)), e)
	return plain, least, f.rounded(n, d, justBelow)
}

// wantRight asks that Round is sure where it must be, that it is right where it is sure, with more and without, and that there is nothing beside it where it is not; and that Sure says the same. It tells whether Round was sure.
func (f format) wantRight(t *testing.T, mant uint64, e int) (sure, sureOfMore bool) {
	t.Helper()
	plain, least, most := f.kind(mant, e)
	got, sure := Round(mant, e, false, f.size)
	switch must := mant == 0 || 0 <= e && e <= mostSure; {
	case !sure && (must || got != 0):
		t.Errorf("Round(%d, %d, false, %d) = %#x, not sure, want %#x", mant, e, f.size, got, plain)
	case sure && got != plain:
		t.Errorf("Round(%d, %d, false, %d) = %#x, want %#x", mant, e, f.size, got, plain)
	}
	got, sureOfMore = Round(mant, e, true, f.size)
	switch {
	case !sureOfMore && got != 0:
		t.Errorf("Round(%d, %d, true, %d) = %#x, not sure", mant, e, f.size, got)
	case sureOfMore && (got != least || got != most):
		t.Errorf("Round(%d, %d, true, %d) = %#x, but it is from %#x to %#x", mant, e, f.size, got, least, most)
	}
	if Sure(mant, e, f.size) != sureOfMore {
		t.Errorf("Sure(%d, %d, %d) = %v", mant, e, f.size, !sureOfMore)
	}
	return sure, sureOfMore
}

// chance is a row of words that is always the same.
type chance uint64

func (c *chance) word() uint64 {
	*c = *c*6364136223846793005 + 1442695040888963407
	x := uint64(*c)
	return x ^ x>>29 ^ x<<31
}

// upTo is a word of at most so many bits, short ones as often as long ones.
func (c *chance) upTo(bits int) uint64 {
	length := c.word() % uint64(bits+1)
	return c.word() >> (64 - length)
}

// within is a whole number from least to most.
func (c *chance) within(least, most int) int {
	return least + int(c.word()%uint64(most-least+1))
}

// read is a text as the library reads it.
func (f format) read(s string) uint64 {
	v, _ := strconv.ParseFloat(s, f.size)
	if f.size == 32 {
		return uint64(math.Float32bits(float32(v)))
	}
	return math.Float64bits(v)
}

// What these tests hold Round against is what the library reads. No number half way between two floats has as many digits as the texts here: so they stand for what is just above a number, and just below the next.
func TestKind(t *testing.T) {
	noughts, nines := strings.Repeat("0", 800), strings.Repeat("9", 820)
	hold := func(f format, mant uint64, e int) {
		plain, least, most := f.kind(mant, e)
		head, tail := strconv.FormatUint(mant, 10)+".", "e"+strconv.Itoa(e)
		if want := f.read(head + tail); plain != want {
			t.Errorf("%d, %d, %d: %#x, want %#x", mant, e, f.size, plain, want)
		}
		if want := f.read(head + noughts + "1" + tail); mant != 0 && least != want {
			t.Errorf("just above %d, %d, %d: %#x, want %#x", mant, e, f.size, least, want)
		}
		if want := f.read(head + nines + tail); most != want {
			t.Errorf("just below what follows %d, %d, %d: %#x, want %#x", mant, e, f.size, most, want)
		}
	}
	c := chance(1)
	for _, f := range formats {
		for _, mant := range namedWords() {
			for _, e := range append([]int{0, 1, -1, mostSure, c.within(-370, 330), c.within(-70, 40)}, farExps...) {
				hold(f, mant, e)
			}
		}
		for range 5000 {
			hold(f, c.upTo(64), c.within(-370, 330))
			hold(f, c.upTo(64), c.within(-70, 40))
		}
	}
}
