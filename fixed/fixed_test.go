package fixed

import (
	"math"
	"math/big"
	"strconv"
	"strings"
	"testing"

	"numeral/api"
)

const (
	maxWord = math.MaxUint64
	// places is how many places behind the point all floats have at most: a unit is one of the last place.
	places = 1074
	// mostPlaces and mostDigits are the greatest that may be asked for.
	mostPlaces = api.MaxPrecision
	mostDigits = api.MaxPrecision + 1
)

// format is what IEEE 754 says of a size: the bits of a mantissa, and the exponent of the least float.
type format struct{ size, bits, least int }

var (
	formats = []format{{32, 24, -149}, {64, 53, -1074}}
	// noSizes are numbers that are no size; some of them would be one, if they were cut to fewer bits.
	noSizes = []int{0, -1, 1, 8, 16, 24, 31, 33, 53, 63, 65, 128, -32, -64, 32 + 1<<32, 64 + 1<<32, 64 - 1<<32, math.MinInt, math.MaxInt, math.MinInt + 32, math.MinInt + 64}
	// neverDigits and neverPlaces are such as may not be asked for; some of them might, if they were cut to fewer bits.
	neverDigits = []int{0, -1, -2, mostDigits + 1, mostDigits + 2, -mostDigits, 1 << 16, 1 << 32, 1<<32 + 1, 5 - 1<<32, math.MaxInt, math.MinInt, math.MinInt + 7}
	neverPlaces = []int{-1, -2, mostPlaces + 1, mostPlaces + 2, -mostPlaces, 1 << 16, 1 << 32, 1<<32 + 1, 5 - 1<<32, math.MaxInt, math.MinInt, math.MinInt + 7}
	// tens are the powers of ten, from 0 on.
	tens = powersOfTen(places + 310)
	// fives is how many units a two to the -places has.
	fives = new(big.Int).Exp(big.NewInt(5), big.NewInt(places), nil)
)

func powersOfTen(n int) []*big.Int {
	list := []*big.Int{big.NewInt(1)}
	for i := range n {
		list = append(list, new(big.Int).Mul(list[i], big.NewInt(10)))
	}
	return list
}

func (f format) hidden() uint64   { return 1 << (f.bits - 1) }
func (f format) sign() uint64     { return 1 << (f.size - 1) }
func (f format) inf() uint64      { return f.sign() - f.hidden() }
func (f format) greatest() uint64 { return f.inf() - 1 }
func (f format) one() uint64      { return f.inf() / 2 &^ (f.hidden() - 1) }

// signed are a float with both signs.
func (f format) signed(float uint64) []uint64 { return []uint64{float, float | f.sign()} }

// named are floats at the places of weight, without a sign: 0, the least ones, the greatest denormal ones and the least that are none, 1 and powers of two about it, the greatest, and powers of ten; and those next to them.
func (f format) named() []uint64 {
	hidden := f.hidden()
	list := []uint64{0, 1, 2, 3, 4, 5, 6, 7, 8, 9, 10, hidden/2 - 1, hidden / 2, hidden/2 + 1, hidden - 2, hidden - 1, hidden, hidden + 1, hidden + 2, 2*hidden - 1, 2 * hidden, 2*hidden + 1}
	for up := range uint64(f.bits + 8) {
		power := f.one() + (up-6)*hidden
		list = append(list, power-2, power-1, power, power+1)
	}
	for back := range uint64(3) {
		list = append(list, f.greatest()-back, f.inf()-hidden-1-back, f.inf()-hidden+back)
	}
	for exponent := -323; exponent < 309; exponent++ {
		ten := f.read("1e" + strconv.Itoa(exponent))
		if ten > 1 && ten < f.inf() {
			list = append(list, ten-1, ten, ten+1)
		}
	}
	return list
}

// everyKind calls do with these, with all floats at which the exponent changes and those next to them, and with n floats all over the size.
func (f format) everyKind(n uint64, do func(float uint64)) {
	for _, float := range f.named() {
		do(float)
	}
	for float := f.hidden(); float < f.inf(); float += f.hidden() {
		do(float - 1)
		do(float)
		do(float + 1)
	}
	step := f.inf()/n | 1
	for i := range n {
		do((i*step ^ i*i) % f.inf())
	}
}

// native is a float as the machine's own.
func (f format) native(float uint64) float64 {
	if f.size == 32 {
		return float64(math.Float32frombits(uint32(float)))
	}
	return math.Float64frombits(float)
}

// read is a text as the library reads it.
func (f format) read(text string) uint64 {
	v, _ := strconv.ParseFloat(text, f.size)
	if f.size == 32 {
		return uint64(math.Float32bits(float32(v)))
	}
	return math.Float64bits(v)
}

// value is that of a float without a sign, in units.
func (f format) value(float uint64) *big.Int {
	exp, mant := int(float>>(f.bits-1)), float%f.hidden()
	if exp > 0 {
		mant += f.hidden()
		exp--
	}
	x := new(big.Int).SetUint64(mant)
	x.Lsh(x, uint(exp+f.least+places))
	return x.Mul(x, fives)
}

// length is how many digits a whole number has, 0 none.
func length(x *big.Int) int {
	n := max(0, int(float64(x.BitLen()-1)*0.30103)-1)
	for x.Cmp(tens[n]) >= 0 {
		n++
	}
	return n
}

// noughts is in how many noughts a whole number that is not 0 ends.
func noughts(x *big.Int) int {
	text := x.String()
	return len(text) - len(strings.TrimRight(text, "0"))
}

// nearest is the multiple of a unit that is nearest to a whole number, of two as near the even multiple.
func nearest(x, unit *big.Int) *big.Int {
	count, rest := new(big.Int).QuoRem(x, unit, new(big.Int))
	half := rest.Lsh(rest, 1).Cmp(unit)
	if half > 0 || half == 0 && count.Bit(0) == 1 {
		count.Add(count, big.NewInt(1))
	}
	return count.Mul(count, unit)
}

// unitOfDigit is the unit of the n-th digit of a whole number, or 1, if it has none that far behind.
func unitOfDigit(x *big.Int, n int) *big.Int { return tens[max(0, length(x)-n)] }

// unitOfPlace is that of the n-th place behind the point, or 1, if no float has a digit there.
func unitOfPlace(n int) *big.Int { return tens[max(0, places-n)] }

// decimal is so many units.
func decimal(n *big.Int) api.Dec {
	if n.Sign() == 0 {
		return api.Dec{}
	}
	digits := n.String()
	return api.Dec{Digits: strings.TrimRight(digits, "0"), Point: len(digits) - places}
}

// units is a decimal as so many of them.
func units(t *testing.T, d api.Dec) *big.Int {
	t.Helper()
	if d == (api.Dec{}) {
		return new(big.Int)
	}
	n, ok := new(big.Int).SetString(d.Digits, 10)
	at := places + d.Point - len(d.Digits)
	if !ok || d.Cut || at < 0 || at >= len(tens) {
		t.Fatalf("%s is no number of units", told(d))
	}
	return n.Mul(n, tens[at])
}

// taken is the decimal of a text that the library tells: digits, a point among them or not, an exponent or not.
func taken(t *testing.T, text string) api.Dec {
	t.Helper()
	mant, exponent, _ := strings.Cut(text, "e")
	ahead, behind, _ := strings.Cut(mant, ".")
	point := len(ahead)
	if exponent != "" {
		e, err := strconv.Atoi(exponent)
		if err != nil {
			t.Fatal(err)
		}
		point += e
	}
	digits := strings.TrimLeft(ahead+behind, "0")
	point -= len(ahead+behind) - len(digits)
	digits = strings.TrimRight(digits, "0")
	if digits == "" {
		return api.Dec{}
	}
	return api.Dec{Digits: digits, Point: point}
}

// chance is a row of words that is always the same.
type chance uint64

func (c *chance) word() uint64 {
	*c = *c*6364136223846793005 + 1442695040888963407
	x := uint64(*c)
	return x ^ x>>29 ^ x<<31
}

// within is a whole number from least to most.
func (c *chance) within(least, most int) int {
	return least + int(c.word()%uint64(most-least+1))
}

// told is a decimal on a line.
func told(d api.Dec) string {
	return "0." + d.Digits + "e" + strconv.Itoa(d.Point) + map[bool]string{true: "+"}[d.Cut]
}

func wantDigits(t *testing.T, float uint64, size, n int, want api.Dec, refused error) {
	t.Helper()
	if d, err := Digits(float, size, n); d != want || err != refused {
		t.Errorf("Digits(%#x, %d, %d): %s, %v, want %s, %v", float, size, n, told(d), err, told(want), refused)
	}
}

func wantPlaces(t *testing.T, float uint64, size, n int, want api.Dec, refused error) {
	t.Helper()
	if d, err := Places(float, size, n); d != want || err != refused {
		t.Errorf("Places(%#x, %d, %d): %s, %v, want %s, %v", float, size, n, told(d), err, told(want), refused)
	}
}

func wantEnds(t *testing.T, float uint64, size, ahead, behind int, refused error) {
	t.Helper()
	if a, b, err := Ends(float, size); a != ahead || b != behind || err != refused {
		t.Errorf("Ends(%#x, %d): %d, %d, %v, want %d, %d, %v", float, size, a, b, err, ahead, behind, refused)
	}
}

func wantExactly(t *testing.T, float uint64, size, n int, want bool, refused error) {
	t.Helper()
	if is, err := Exactly(float, size, n); is != want || err != refused {
		t.Errorf("Exactly(%#x, %d, %d): %v, %v, want %v, %v", float, size, n, is, err, want, refused)
	}
}

// wantNothing asks that all calls refuse a float, whatever n is.
func wantNothing(t *testing.T, float uint64, size int, refused error) {
	t.Helper()
	wantEnds(t, float, size, 0, 0, refused)
	for _, n := range append([]int{1, 2, 17, mostPlaces, mostDigits}, neverDigits...) {
		wantDigits(t, float, size, n, api.Dec{}, refused)
	}
	for _, n := range append([]int{0, 1, 17, mostPlaces}, neverPlaces...) {
		wantPlaces(t, float, size, n, api.Dec{}, refused)
		wantExactly(t, float, size, n, false, refused)
	}
}

// A size that is none is told ahead of all that is wrong beside it: floats that are none, and an n that may not be.
func TestFI1FI2SizesThatAreNone(t *testing.T) {
	for _, size := range noSizes {
		for _, float := range []uint64{0, 1, 0x3f800000, 0x7f7fffff, 0x7f800000, 0x7fc00000, 1 << 31, 1<<32 - 1, 1 << 32, 0x3ff0000000000000, 0x7ff0000000000000, 0x7ff8000000000000, 1 << 63, maxWord} {
			wantNothing(t, float, size, api.ErrBitSize)
		}
	}
}

// The infinity and NaNs, quiet ones and others, are told ahead of an n that may not be.
func TestFI1FI2FloatsThatAreNone(t *testing.T) {
	for _, f := range formats {
		for _, behind := range []uint64{0, 1, 2, f.hidden()/2 - 1, f.hidden() / 2, f.hidden()/2 + 1, f.hidden() - 1} {
			for _, float := range f.signed(f.inf() + behind) {
				wantNothing(t, float, f.size, api.ErrArg)
			}
		}
	}
}

// Bits above those of size 32 are refused, whatever stands below them.
func TestFI1FI2BitsAboveTheSize(t *testing.T) {
	for _, high := range []uint64{1 << 32, 1 << 33, 1 << 63, 0x3ff << 52, maxWord &^ (1<<32 - 1)} {
		for _, low := range []uint64{0, 1, 0x3f800000, 0x42c80000, 0x7f7fffff, 0x7f800000, 0x7fc00000, 0x80000000, 0xffffffff} {
			wantNothing(t, high|low, 32, api.ErrArg)
		}
	}
}

// An n that may not be is refused of every float, a nought too; the ones next to it are not.
func TestFI1FI2Precisions(t *testing.T) {
	for _, f := range formats {
		for _, float := range f.named() {
			for _, float := range f.signed(float) {
				for _, n := range neverDigits {
					wantDigits(t, float, f.size, n, api.Dec{}, api.ErrPrecision)
				}
				for _, n := range neverPlaces {
					wantPlaces(t, float, f.size, n, api.Dec{}, api.ErrPrecision)
					wantExactly(t, float, f.size, n, false, api.ErrPrecision)
				}
				for _, n := range []int{1, mostDigits} {
					if _, err := Digits(float, f.size, n); err != nil {
						t.Errorf("Digits(%#x, %d, %d): %v", float, f.size, n, err)
					}
				}
				for _, n := range []int{0, mostPlaces} {
					_, err := Places(float, f.size, n)
					_, other := Exactly(float, f.size, n)
					if err != nil || other != nil {
						t.Errorf("Places, Exactly(%#x, %d, %d): %v, %v", float, f.size, n, err, other)
					}
				}
			}
		}
	}
}

// Whatever is given, there is an answer, with nothing beside an error.
func TestFI1FI2Total(t *testing.T) {
	c := chance(1)
	for range 20000 {
		float, size, n := c.word()>>c.within(0, 63), c.within(-130, 130), c.within(-20, 1300)
		for _, size := range []int{size, 32, 64} {
			d, err := Digits(float, size, n)
			p, other := Places(float, size, n)
			is, same := Exactly(float, size, n)
			ahead, behind, third := Ends(float, size)
			if err != nil && d != (api.Dec{}) || other != nil && p != (api.Dec{}) || same != nil && is || third != nil && (ahead != 0 || behind != 0) || other != same {
				t.Errorf("%#x, %d, %d: %s, %v; %s, %v; %v, %v; %d, %d, %v", float, size, n, told(d), err, told(p), other, is, same, ahead, behind, third)
			}
		}
	}
}
