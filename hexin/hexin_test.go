package hexin

import (
	"math"
	"math/big"
	"strconv"
	"strings"
	"testing"

	"numeral/api"
)

const maxWord = math.MaxUint64

var (
	signs = []bool{false, true}
	// noSizes are numbers that are no size; some of them would be one, if they were cut to fewer bits.
	noSizes = []int{0, -1, 1, 8, 16, 24, 31, 33, 53, 63, 65, 128, -32, -64, 32 << 8, 32 + 1<<32, 64 + 1<<32, 64 - 1<<32, math.MinInt, math.MaxInt, math.MinInt + 32, math.MinInt + 64}
	// farUp are exponents with which every word but 0 is above all floats; some of them would be near 0, if they were cut to fewer bits.
	farUp = []int{1024, 1025, 1999, 2000, 2001, 2048, 1 << 16, 1 << 31, 1 << 32, 1<<32 + 5, api.MaxPoint, api.MaxPoint + 1, math.MaxInt - 1074, math.MaxInt - 149, math.MaxInt - 64, math.MaxInt - 1, math.MaxInt}
	// farDown are exponents with which every word is below half of the least float.
	farDown = []int{-1139, -1140, -1999, -2000, -2001, -2048, -1 << 16, -1 << 31, -1 << 32, 5 - 1<<32, -api.MaxPoint, -api.MaxPoint - 1, math.MinInt + 1074, math.MinInt + 1023, math.MinInt + 64, math.MinInt + 1, math.MinInt}
)

// format is what IEEE 754 says of a size: the bits of a mantissa, the exponents of the least and of the greatest float.
type format struct{ size, places, least, most int }

var formats = []format{{32, 24, -149, 104}, {64, 53, -1074, 971}}

func (f format) inf() uint64 { return 1<<(f.size-1) - 1<<(f.places-1) }

func (f format) signed(float uint64, neg bool) uint64 {
	if neg {
		return float | 1<<(f.size-1)
	}
	return float
}

// words are 0, 1, the powers of two, one more and one less of each, the greatest words, and words at and beside what is half way, of just as many bits as a float keeps and of some more.
func words() []uint64 {
	list := []uint64{0, 5, 7, 123, maxWord - 2, maxWord - 1, maxWord}
	for i := range 64 {
		list = append(list, 1<<i-1, 1<<i, 1<<i+1)
	}
	for _, f := range formats {
		for length := f.places; length <= 64; length++ {
			top, unit := uint64(1)<<(length-1), uint64(1)<<(length-f.places)
			for _, m := range []uint64{top + unit, top + unit/2, top + unit + unit/2, top + top/2 + unit/2, top + (top - unit), top + (top - unit/2)} {
				list = append(list, m-1, m, m+1)
			}
		}
	}
	return list
}

// exps are exponents at which a word is at an edge of a size: the least float, half of it, a quarter of it, the least that is not denormal, the greatest, and half way beyond it; and 0.
func (f format) exps(m uint64) []int {
	length := word(m).BitLen()
	list := []int{0, f.least, f.most}
	for _, edge := range []int{0, f.least, f.least + f.places - 1, f.most + f.places} {
		for near := -4; near <= 4; near++ {
			list = append(list, edge-length+near, edge+near)
		}
	}
	return list
}

// side says which number is meant beside one that is told: it, or one that is next to it by less than anything.
type side int

const (
	justBelow side = -1
	itself    side = 0
	justAbove side = 1
)

// All numbers here are whole: they are told in units of 2^-unitPlaces, of which every float, and every number that Round is asked for here, is a whole number.
const unitPlaces = 4000

func word(m uint64) *big.Int { return new(big.Int).SetUint64(m) }

func power(n int) *big.Int { return new(big.Int).Lsh(big.NewInt(1), uint(n)) }

// scaled is m * 2^exp, in units. Beyond 3000, up or down, no word makes up for the exponent: it is brought near.
func scaled(m *big.Int, exp int) *big.Int {
	return new(big.Int).Lsh(m, uint(unitPlaces+max(-3000, min(exp, 3000))))
}

// rounded is x, or what is next to it on a side, rounded; the infinity's bits, if that is beyond.
func (f format) rounded(x *big.Int, on side) uint64 {
	least := unitPlaces + f.least
	unit := max(least, x.BitLen()-f.places)
	q := new(big.Int).Rsh(x, uint(unit))
	twice := new(big.Int).Sub(x, new(big.Int).Lsh(q, uint(unit)))
	twice.Lsh(twice, 1)
	half := twice.Cmp(power(unit))
	float := q.Uint64()
	if half > 0 || half == 0 && (on == justAbove || on == itself && float%2 == 1) {
		float++
	}
	// The first bit of what is not denormal counts as one more exponent.
	return min(f.inf(), float+uint64(unit-least)<<(f.places-1))
}

// kind are the floats that the numbers of a kind are rounded to: the number itself, without more; with more the least of them and the greatest.
func (f format) kind(m uint64, exp int) (plain, low, high uint64) {
	x := scaled(word(m), exp)
	plain, low = f.rounded(x, itself), f.rounded(x, justAbove)
	next := new(big.Int).Add(word(m), big.NewInt(1))
	return plain, low, f.rounded(scaled(next, exp), justBelow)
}

// told is what the chapter says of a magnitude that was rounded, and a sign.
func (f format) told(float uint64, neg bool) (uint64, error) {
	if float == f.inf() {
		return f.signed(float, neg), api.ErrRange
	}
	return f.signed(float, neg), nil
}

func wantRound(t *testing.T, neg bool, m uint64, exp int, more bool, size int, want uint64, refused error) {
	t.Helper()
	if b, err := Round(neg, m, exp, more, size); b != want || err != refused {
		t.Errorf("Round(%v, %#x, %d, %v, %d) = %#x, %v, want %#x, %v", neg, m, exp, more, size, b, err, want, refused)
	}
	// What Of answers of a hexadecimal text's parts is the same.
	wantOf(t, api.Parts{Neg: neg, Kind: api.TextHex, Mant: m, Exp: exp, Cut: more}, size, want, refused)
}

func wantOf(t *testing.T, p api.Parts, size int, want uint64, refused error) {
	t.Helper()
	if b, err := Of(p, size); b != want || err != refused {
		t.Errorf("Of(%+v, %d) = %#x, %v, want %#x, %v", p, size, b, err, want, refused)
	}
}

// seen counts what Round was asked for with more.
type seen struct{ one, none, beyond int }

// wantRight asks for what the chapter says of a word and an exponent, without more and with it, with both signs.
func (f format) wantRight(t *testing.T, m uint64, exp int, s *seen) {
	t.Helper()
	plain, low, high := f.kind(m, exp)
	for _, neg := range signs {
		want, refused := f.told(plain, neg)
		wantRound(t, neg, m, exp, false, f.size, want, refused)
		if low != high {
			s.none++
			wantRound(t, neg, m, exp, true, f.size, 0, api.ErrArg)
			continue
		}
		s.one++
		want, refused = f.told(low, neg)
		if refused != nil {
			s.beyond++
		}
		wantRound(t, neg, m, exp, true, f.size, want, refused)
	}
}

// chance is a row of words that is always the same.
type chance uint64

func (c *chance) word() uint64 {
	*c = *c*6364136223846793005 + 1442695040888963407
	x := uint64(*c)
	return x ^ x>>29 ^ x<<31
}

// upTo is a word of at most so many bits, short ones as often as long ones.
func (c *chance) upTo(bits int) uint64 {
	length := c.word() % uint64(bits+1)
	return c.word() >> (64 - length)
}

// within is a whole number from least to most.
func (c *chance) within(least, most int) int {
	return least + int(c.word()%uint64(most-least+1))
}

// read is a text as the library reads it.
func (f format) read(s string) uint64 {
	v, _ := strconv.ParseFloat(s, f.size)
	if f.size == 32 {
		return uint64(math.Float32bits(float32(v)))
	}
	return math.Float64bits(v)
}

// What these tests hold Round against is what the library reads of hexadecimal texts. No number half way between two floats has as many digits as the texts here: so they stand for what is just above a number, and just below the next.
func TestModel(t *testing.T) {
	noughts, tail := strings.Repeat("0", 600), strings.Repeat("f", 40)
	hold := func(f format, m uint64, exp int) {
		plain, low, high := f.kind(m, exp)
		head, end := "0x"+strconv.FormatUint(m, 16)+".", "p"+strconv.Itoa(exp)
		if want := f.read(head + end); plain != want {
			t.Errorf("%#x, %d, %d: %#x, want %#x", m, exp, f.size, plain, want)
		}
		if want := f.read(head + noughts + "1" + end); low != want && m != 0 {
			t.Errorf("just above %#x, %d, %d: %#x, want %#x", m, exp, f.size, low, want)
		}
		if want := f.read(head + tail + end); high != want {
			t.Errorf("just below what follows %#x, %d, %d: %#x, want %#x", m, exp, f.size, high, want)
		}
	}
	c := chance(1)
	for _, f := range formats {
		for _, m := range words() {
			for _, exp := range f.exps(m) {
				hold(f, m, exp)
			}
		}
		for range 10000 {
			hold(f, c.upTo(64), c.within(-1200, 1050))
			hold(f, c.upTo(64), c.within(-230, 140))
		}
	}
}
