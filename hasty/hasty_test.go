package hasty

import (
	"math"
	"math/big"
	"strconv"
	"strings"
	"testing"

	"numeral/api"
)

const (
	maxWord = math.MaxUint64
	// places is how many places behind the point all floats have at most: a unit is one of the last place.
	places = 1074
	// most is how many digits may be asked for.
	most = 18
	// wholes are the numbers below which hasty must be sure of whole ones.
	wholes = uint64(1) << 53
)

// format is what IEEE 754 says of a size: the bits of a mantissa, and the exponent of the least float.
type format struct{ size, bits, least int }

var (
	formats = []format{{32, 24, -149}, {64, 53, -1074}}
	// noSizes are numbers that are no size; some of them would be one, if they were cut to fewer bits.
	noSizes = []int{0, -1, 1, 8, 16, 24, 31, 33, 53, 63, 65, 128, -32, -64, 32 + 1<<32, 64 + 1<<32, 64 - 1<<32, math.MinInt, math.MaxInt, math.MinInt + 32, math.MinInt + 64}
	// never are counts of digits that may not be asked for; some of them might, if they were cut to fewer bits.
	never = []int{0, -1, -2, most + 1, most + 2, 20, 64, 800, -most, 1 << 8, 1<<8 + 1, 1 << 16, 1<<16 + 5, 1 << 32, 1<<32 + 1, 5 - 1<<32, math.MaxInt, math.MinInt, math.MinInt + 7}
	// tens are the powers of ten, from 0 on.
	tens = powersOfTen(places + 310)
	// fives is how many units a two to the -places has.
	fives = power(5, places)
)

func power(b, n int) *big.Int {
	return new(big.Int).Exp(big.NewInt(int64(b)), big.NewInt(int64(n)), nil)
}

func powersOfTen(n int) []*big.Int {
	list := []*big.Int{big.NewInt(1)}
	for i := range n {
		list = append(list, new(big.Int).Mul(list[i], big.NewInt(10)))
	}
	return list
}

func (f format) hidden() uint64   { return 1 << (f.bits - 1) }
func (f format) sign() uint64     { return 1 << (f.size - 1) }
func (f format) inf() uint64      { return f.sign() - f.hidden() }
func (f format) greatest() uint64 { return f.inf() - 1 }
func (f format) one() uint64      { return f.inf() / 2 &^ (f.hidden() - 1) }

// signed are a float with both signs.
func (f format) signed(float uint64) []uint64 { return []uint64{float, float | f.sign()} }

// named are floats at the places of weight, without a sign: the least ones, the greatest denormal ones and the least that are none, 1 and powers of two about it, the greatest, and powers of ten; and those next to them.
func (f format) named() []uint64 {
	hidden := f.hidden()
	list := []uint64{1, 2, 3, 4, 5, 6, 7, 8, 9, 10, hidden/2 - 1, hidden / 2, hidden/2 + 1, hidden - 2, hidden - 1, hidden, hidden + 1, hidden + 2, 2*hidden - 1, 2 * hidden, 2*hidden + 1}
	for up := range uint64(f.bits + 8) {
		power := f.one() + (up-6)*hidden
		list = append(list, power-2, power-1, power, power+1)
	}
	for back := range uint64(3) {
		list = append(list, f.greatest()-back, f.inf()-hidden-1-back, f.inf()-hidden+back)
	}
	for exponent := -323; exponent < 309; exponent++ {
		ten := f.read("1e" + strconv.Itoa(exponent))
		if ten > 1 && ten < f.inf() {
			list = append(list, ten-1, ten, ten+1)
		}
	}
	return list
}

// everyKind calls do with these, with all floats at which the exponent changes and those next to them, and with n floats all over the size.
func (f format) everyKind(n uint64, do func(float uint64)) {
	for _, float := range f.named() {
		do(float)
	}
	for float := f.hidden(); float < f.inf(); float += f.hidden() {
		do(float - 1)
		do(float)
		do(float + 1)
	}
	step := f.inf()/n | 1
	for i := range n {
		do(max(1, (i*step^i*i)%f.inf()))
	}
}

// native is a float as the machine's own.
func (f format) native(float uint64) float64 {
	if f.size == 32 {
		return float64(math.Float32frombits(uint32(float)))
	}
	return math.Float64frombits(float)
}

// read is a text as the library reads it.
func (f format) read(text string) uint64 {
	v, _ := strconv.ParseFloat(text, f.size)
	if f.size == 32 {
		return uint64(math.Float32bits(float32(v)))
	}
	return math.Float64bits(v)
}

// of is the float of a whole number, and whether it is that number.
func (f format) of(n uint64) (uint64, bool) {
	float := f.read(strconv.FormatUint(n, 10))
	return float, uint64(f.native(float)) == n
}

// value is that of a float without a sign, in units.
func (f format) value(float uint64) *big.Int {
	exp, mant := int(float>>(f.bits-1)), float%f.hidden()
	if exp > 0 {
		mant += f.hidden()
		exp--
	}
	x := new(big.Int).SetUint64(mant)
	x.Lsh(x, uint(exp+f.least+places))
	return x.Mul(x, fives)
}

// length is how many digits a whole number has, 0 none.
func length(x *big.Int) int {
	n := max(0, int(float64(x.BitLen()-1)*0.30103)-1)
	for x.Cmp(tens[n]) >= 0 {
		n++
	}
	return n
}

// nearest is the multiple of a unit that is nearest to a whole number, of two as near the even multiple; and whether two are as near.
func nearest(x, unit *big.Int) (*big.Int, bool) {
	count, rest := new(big.Int).QuoRem(x, unit, new(big.Int))
	half := rest.Lsh(rest, 1).Cmp(unit)
	if half > 0 || half == 0 && count.Bit(0) == 1 {
		count.Add(count, big.NewInt(1))
	}
	return count.Mul(count, unit), half == 0
}

// decimal is so many units.
func decimal(n *big.Int) api.Dec {
	digits := n.String()
	return api.Dec{Digits: strings.TrimRight(digits, "0"), Point: len(digits) - places}
}

// taken is the decimal of a text that the library tells of what is not 0: digits, a point among them or not, an exponent or not.
func taken(t *testing.T, text string) api.Dec {
	t.Helper()
	mant, exponent, _ := strings.Cut(text, "e")
	ahead, behind, _ := strings.Cut(mant, ".")
	point := len(ahead)
	if exponent != "" {
		e, err := strconv.Atoi(exponent)
		if err != nil {
			t.Fatal(err)
		}
		point += e
	}
	digits := strings.TrimLeft(ahead+behind, "0")
	return api.Dec{Digits: strings.TrimRight(digits, "0"), Point: point - len(ahead+behind) + len(digits)}
}

// chance is a row of words that is always the same.
type chance uint64

func (c *chance) word() uint64 {
	*c = *c*6364136223846793005 + 1442695040888963407
	x := uint64(*c)
	return x ^ x>>29 ^ x<<31
}

// within is a whole number from least to most.
func (c *chance) within(least, most int) int {
	return least + int(c.word()%uint64(most-least+1))
}

// told is a decimal on a line.
func told(d api.Dec) string {
	return "0." + d.Digits + "e" + strconv.Itoa(d.Point) + map[bool]string{true: "+"}[d.Cut]
}

func wantDigits(t *testing.T, float uint64, size, n int, want api.Dec, sure bool, refused error) {
	t.Helper()
	if d, ok, err := Digits(float, size, n); d != want || ok != sure || err != refused {
		t.Errorf("Digits(%#x, %d, %d): %s, %v, %v, want %s, %v, %v", float, size, n, told(d), ok, err, told(want), sure, refused)
	}
}

// wantOrNotSure asks for that answer, or for nothing at all. It tells whether it was sure.
func wantOrNotSure(t *testing.T, float uint64, size, n int, want api.Dec) bool {
	t.Helper()
	_, sure, _ := Digits(float, size, n)
	if !sure {
		want = api.Dec{}
	}
	wantDigits(t, float, size, n, want, sure, nil)
	return sure
}

// hold asks every count of digits of a float, with both signs: what is told is the nearest number with so many, by whole numbers. It tells of how many it was not sure.
func (f format) hold(t *testing.T, float uint64) int {
	t.Helper()
	value, notSure := f.value(float), 0
	all := length(value)
	for n := 1; n <= most; n++ {
		want, _ := nearest(value, tens[max(0, all-n)])
		for _, float := range f.signed(float) {
			if !wantOrNotSure(t, float, f.size, n, decimal(want)) {
				notSure++
			}
		}
	}
	return notSure
}

// wantNothing asks that every count of digits is refused so, whether it may be or not.
func wantNothing(t *testing.T, float uint64, size int, refused error) {
	t.Helper()
	for n := -1; n < most+2; n++ {
		wantDigits(t, float, size, n, api.Dec{}, false, refused)
	}
	for _, n := range never {
		wantDigits(t, float, size, n, api.Dec{}, false, refused)
	}
}

// A size that is none is told ahead of all that is wrong beside it: floats that are none, noughts, and an n that may not be.
func TestHA1SizesThatAreNone(t *testing.T) {
	for _, size := range noSizes {
		for _, float := range []uint64{0, 1, 0x3f800000, 0x7f7fffff, 0x7f800000, 0x7fc00000, 1 << 31, 1<<32 - 1, 1 << 32, 0x3ff0000000000000, 0x7ff0000000000000, 0x7ff8000000000000, 1 << 63, maxWord} {
			wantNothing(t, float, size, api.ErrBitSize)
		}
	}
}

// The infinity, NaNs, quiet ones and others, and noughts are refused, with both signs.
func TestHA1FloatsThatAreNotTold(t *testing.T) {
	for _, f := range formats {
		for _, behind := range []uint64{0, 1, 2, f.hidden()/2 - 1, f.hidden() / 2, f.hidden()/2 + 1, f.hidden() - 1} {
			for _, float := range f.signed(f.inf() + behind) {
				wantNothing(t, float, f.size, api.ErrArg)
			}
		}
		for _, nought := range f.signed(0) {
			wantNothing(t, nought, f.size, api.ErrArg)
		}
	}
}

// Bits above those of size 32 are refused, whatever stands below them.
func TestHA1BitsAboveTheSize(t *testing.T) {
	for _, high := range []uint64{1 << 32, 1 << 33, 1 << 63, 0x3ff << 52, maxWord &^ (1<<32 - 1)} {
		for _, low := range []uint64{0, 1, 0x3f800000, 0x42c80000, 0x7f7fffff, 0x7f800000, 0x7fc00000, 0x80000000, 0xffffffff} {
			wantNothing(t, high|low, 32, api.ErrArg)
		}
	}
}

// An n that may not be is refused of every float; the ones next to it are not.
func TestHA1CountsThatMayNotBe(t *testing.T) {
	for _, f := range formats {
		for _, float := range f.named() {
			for _, float := range f.signed(float) {
				for _, n := range never {
					wantDigits(t, float, f.size, n, api.Dec{}, false, api.ErrArg)
				}
				for _, n := range []int{1, most} {
					if _, _, err := Digits(float, f.size, n); err != nil {
						t.Errorf("Digits(%#x, %d, %d): %v", float, f.size, n, err)
					}
				}
			}
		}
	}
}

// Whatever is given, there is an answer, with nothing beside an error, nor where it is not sure.
func TestHA1Total(t *testing.T) {
	c := chance(1)
	for range 100000 {
		float, size, n := c.word()>>c.within(0, 63), c.within(-130, 130), c.within(-20, 40)
		for _, size := range []int{size, 32, 64} {
			d, sure, err := Digits(float, size, n)
			if err != nil && sure || sure == (d == api.Dec{}) {
				t.Errorf("Digits(%#x, %d, %d): %s, %v, %v", float, size, n, told(d), sure, err)
			}
		}
	}
}
