package interval

import (
	"math"
	"math/big"
	"strconv"
	"strings"
	"testing"

	"numeral/api"
)

const (
	maxWord = math.MaxUint64
	// unit is a power of two of which all floats, and all that is half way between two of them, are whole multiples.
	unit = -1075
)

// format is what IEEE 754 says of a size: the bits of a mantissa, and the exponent of the least float.
type format struct{ size, places, least int }

var (
	formats = []format{{32, 24, -149}, {64, 53, -1074}}
	// noSizes are numbers that are no size; some of them would be one, if they were cut to fewer bits.
	noSizes = []int{0, -1, 1, 16, 31, 33, 53, 63, 65, 128, -32, -64, 32 + 1<<32, 64 + 1<<32, math.MinInt, math.MaxInt, math.MinInt + 64}
	// fives are how many tens to the unit go into one unit.
	fives = power(5, -unit)
)

func (f format) hidden() uint64 { return 1 << (f.places - 1) }
func (f format) sign() uint64   { return 1 << (f.size - 1) }
func (f format) inf() uint64    { return f.sign() - f.hidden() }
func (f format) most() uint64   { return f.inf() - 1 }
func (f format) one() uint64    { return f.inf() / 2 &^ (f.hidden() - 1) }

// signed are a float with both signs.
func (f format) signed(float uint64) []uint64 { return []uint64{float, float | f.sign()} }

// named are floats at the places of weight, without a sign: 0, the least ones, the greatest denormal ones and the least that are none, 1 and powers of two about it, such as are about whole numbers of as many bits as a mantissa, the greatest; and those next to them.
func (f format) named() []uint64 {
	hidden := f.hidden()
	list := []uint64{0, 1, 2, 3, 4, 5, hidden/2 - 1, hidden / 2, hidden/2 + 1, hidden - 2, hidden - 1, hidden, hidden + 1, hidden + 2, 2*hidden - 1, 2 * hidden, 2*hidden + 1}
	for up := range uint64(f.places + 4) {
		power := f.one() + (up-2)*hidden
		list = append(list, power-2, power-1, power, power+1)
	}
	for back := range uint64(3) {
		list = append(list, f.most()-back, f.inf()-hidden-1-back, f.inf()-hidden+back)
	}
	return list
}

// spread calls do with n floats all over a size, without a sign, all of them finite.
func (f format) spread(n uint64, do func(float uint64)) {
	step := f.inf()/n | 1
	for i := range n {
		do((i*step ^ i*i) % f.inf())
	}
}

// steps calls do with all floats at which the exponent changes, with those ahead and behind.
func (f format) steps(do func(float uint64)) {
	for float := f.hidden(); float < f.inf(); float += f.hidden() {
		do(float - 1)
		do(float)
		do(float + 1)
	}
}

// everyKind calls do with all of these.
func (f format) everyKind(n uint64, do func(float uint64)) {
	for _, float := range f.named() {
		do(float)
	}
	f.steps(do)
	f.spread(n, do)
}

// value is that of a float without a sign, in units; that of the infinity is the power of two behind the greatest float.
func (f format) value(float uint64) *big.Int {
	exp, mant := int(float>>(f.places-1)), float%f.hidden()
	if exp > 0 {
		mant += f.hidden()
		exp--
	}
	x := new(big.Int).SetUint64(mant)
	return x.Lsh(x, uint(exp+f.least-unit))
}

// half is half way from a float to the next one, in units.
func (f format) half(float uint64) *big.Int {
	sum := new(big.Int).Add(f.value(float), f.value(float+1))
	return sum.Rsh(sum, 1)
}

// ends are those of a float's interval, in units.
func (f format) ends(float uint64) (*big.Int, *big.Int) {
	if float == 0 {
		return new(big.Int), f.half(0)
	}
	return f.half(float - 1), f.half(float)
}

func power(b, n int) *big.Int {
	return new(big.Int).Exp(big.NewInt(int64(b)), big.NewInt(int64(n)), nil)
}

// tens is a number of units as a whole number of tens to the unit.
func tens(x *big.Int) *big.Int { return new(big.Int).Mul(x, fives) }

// decimalOf is n times ten to the -places.
func decimalOf(n *big.Int, places int) api.Dec {
	if n.Sign() == 0 {
		return api.Dec{}
	}
	digits := n.String()
	return api.Dec{Digits: strings.TrimRight(digits, "0"), Point: len(digits) - places}
}

// units is a number of units as a decimal.
func units(x *big.Int) api.Dec { return decimalOf(tens(x), -unit) }

// order is how a decimal that is not Cut stands to a number of units, by whole numbers. Points far out are brought near, but not so near that a float is there.
func order(d api.Dec, x *big.Int) int {
	if d.Digits == "" {
		return -x.Sign()
	}
	exp := max(-450, min(d.Point, 450)) - len(d.Digits)
	left, _ := new(big.Int).SetString(d.Digits, 10)
	left.Mul(left, power(10, max(0, exp))).Lsh(left, -unit)
	return left.Cmp(new(big.Int).Mul(x, power(10, max(0, -exp))))
}

// lies says whether a decimal that is not Cut is rounded to a float, by whole numbers.
func (f format) lies(d api.Dec, float uint64) bool {
	low, high := f.ends(float)
	if float%2 == 0 {
		return order(d, low) >= 0 && order(d, high) <= 0
	}
	return order(d, low) > 0 && order(d, high) < 0
}

// read is a decimal as the library reads it.
func (f format) read(d api.Dec) uint64 {
	v, _ := strconv.ParseFloat("0."+d.Digits+"e"+strconv.Itoa(d.Point), f.size)
	if f.size == 32 {
		return uint64(math.Float32bits(float32(v)))
	}
	return math.Float64bits(v)
}

// native is a float as the machine's own.
func (f format) native(float uint64) float64 {
	if f.size == 32 {
		return float64(math.Float32frombits(uint32(float)))
	}
	return math.Float64frombits(float)
}

// shortest is how many digits the library tells of a float that is not 0.
func (f format) shortest(float uint64) int {
	text := strconv.FormatFloat(f.native(float), 'e', -1, f.size)
	digits, _, _ := strings.Cut(text, "e")
	return len(strings.Replace(digits, ".", "", 1))
}

// chance is a row of words that is always the same.
type chance uint64

func (c *chance) word() uint64 {
	*c = *c*6364136223846793005 + 1442695040888963407
	x := uint64(*c)
	return x ^ x>>29 ^ x<<31
}

// within is a whole number from least to most.
func (c *chance) within(least, most int) int {
	return least + int(c.word()%uint64(most-least+1))
}

// decimal is one with a number of digits that is as often small as great, whose point is from least to most.
func (c *chance) decimal(least, most int) api.Dec {
	length := c.within(1, 20)
	if c.word()%4 == 0 {
		length = c.within(1, api.MaxDigits)
	}
	digits := make([]byte, length)
	for i := range digits {
		digits[i] = '0' + byte(c.word()%10)
	}
	for _, i := range []int{0, length - 1} {
		digits[i] = '1' + byte(c.word()%9)
	}
	return api.Dec{Digits: string(digits), Point: c.within(least, most)}
}

// told is a decimal on a short line.
func told(d api.Dec) string {
	digits := d.Digits
	if len(digits) > 40 {
		digits = digits[:20] + ".." + digits[len(digits)-20:] + " (" + strconv.Itoa(len(digits)) + ")"
	}
	return "0." + digits + "e" + strconv.Itoa(d.Point) + map[bool]string{true: "+"}[d.Cut]
}

func wantExact(t *testing.T, float uint64, size int, want api.Dec, refused error) {
	t.Helper()
	if d, err := Exact(float, size); d != want || err != refused {
		t.Errorf("Exact(%#x, %d): %s, %v, want %s, %v", float, size, told(d), err, told(want), refused)
	}
}

func wantBounds(t *testing.T, float uint64, size int, low, high api.Dec, closed bool, refused error) {
	t.Helper()
	if l, h, c, err := Bounds(float, size); l != low || h != high || c != closed || err != refused {
		t.Errorf("Bounds(%#x, %d): %s, %s, %v, %v, want %s, %s, %v, %v", float, size, told(l), told(h), c, err, told(low), told(high), closed, refused)
	}
}

func wantIn(t *testing.T, d api.Dec, float uint64, size int, want bool, refused error) {
	t.Helper()
	if in, err := In(d, float, size); in != want || err != refused {
		t.Errorf("In(%s, %#x, %d): %v, %v, want %v, %v", told(d), float, size, in, err, want, refused)
	}
}

func wantBetween(t *testing.T, float uint64, size, digits int, want bool, refused error) {
	t.Helper()
	if b, err := Between(float, size, digits); b != want || err != refused {
		t.Errorf("Between(%#x, %d, %d): %v, %v, want %v, %v", float, size, digits, b, err, want, refused)
	}
}

// neverDecimals are such as may not be.
func neverDecimals() []api.Dec {
	full := strings.Repeat("7", api.MaxDigits)
	return []api.Dec{
		{Digits: "1x"}, {Digits: "x"}, {Digits: "-1"}, {Digits: "1.5"}, {Digits: "1/"}, {Digits: "1:"}, {Digits: "1\x00"}, {Digits: "1\xb5"}, {Digits: " 1"}, {Digits: full[1:] + "a"},
		{Digits: "0"}, {Digits: "01"}, {Digits: "0", Cut: true}, {Digits: "01", Cut: true},
		{Digits: "10"}, {Digits: "120", Point: 5}, {Digits: full[1:] + "0"},
		{Digits: full + "7"}, {Digits: full + "7", Cut: true}, {Digits: strings.Repeat("1", 9000)},
		{Digits: "1", Point: api.MaxPoint + 1}, {Digits: "1", Point: -api.MaxPoint - 1}, {Digits: "1", Point: math.MaxInt}, {Digits: "1", Point: math.MinInt, Cut: true},
		{Cut: true}, {Point: 1}, {Point: -1}, {Point: api.MaxPoint, Cut: true},
	}
}

// cutDecimals are such as may be, but are Cut.
func cutDecimals() []api.Dec {
	full := strings.Repeat("7", api.MaxDigits)
	return []api.Dec{
		{Digits: "1", Cut: true}, {Digits: "1", Point: 1, Cut: true}, {Digits: "10", Point: 1, Cut: true}, {Digits: "5", Point: -323, Cut: true},
		{Digits: full, Point: 400, Cut: true}, {Digits: full[1:] + "0", Point: -400, Cut: true}, {Digits: "1", Point: api.MaxPoint, Cut: true}, {Digits: "1", Point: -api.MaxPoint, Cut: true},
	}
}

// someDecimals are such as may be and are not Cut, 0 and those far out among them.
func someDecimals() []api.Dec {
	full := strings.Repeat("7", api.MaxDigits)
	list := []api.Dec{{}, {Digits: "1"}, {Digits: "1", Point: 1}, {Digits: "5", Point: -323}, {Digits: "25", Point: -323}, {Digits: "34028235", Point: 39}, {Digits: "17976931348623157", Point: 309}}
	for _, point := range []int{api.MaxPoint, 1<<32 + 1, 5000, 400, 310, 0, -324, -400, -5000, 1 - 1<<32, -api.MaxPoint} {
		list = append(list, api.Dec{Digits: "1", Point: point}, api.Dec{Digits: full, Point: point})
	}
	return list
}

// wantNothing asks that all calls refuse a float.
func wantNothing(t *testing.T, float uint64, size int, refused error) {
	t.Helper()
	wantExact(t, float, size, api.Dec{}, refused)
	wantBounds(t, float, size, api.Dec{}, api.Dec{}, false, refused)
	for _, d := range []api.Dec{{}, {Digits: "1", Point: 1}, {Digits: "1x"}, {Digits: "1", Cut: true}, {Point: math.MaxInt}} {
		wantIn(t, d, float, size, false, refused)
	}
	for _, digits := range []int{math.MinInt, -1, 0, 1, 9, 17, 18, math.MaxInt} {
		wantBetween(t, float, size, digits, false, refused)
	}
}

// A size that is none is told ahead of all that is wrong beside it.
func TestSizesThatAreNone(t *testing.T) {
	for _, size := range noSizes {
		for _, float := range []uint64{0, 1, 0x3f800000, 0x7f7fffff, 0x7f800000, 0x7fc00000, 1 << 31, 1 << 32, 0x3ff0000000000000, 0x7ff0000000000000, 0x7ff8000000000000, 1 << 63, maxWord} {
			wantNothing(t, float, size, api.ErrBitSize)
		}
	}
}

func TestFloatsThatAreNone(t *testing.T) {
	for _, f := range formats {
		for _, behind := range []uint64{0, 1, 2, f.hidden()/2 - 1, f.hidden() / 2, f.hidden()/2 + 1, f.hidden() - 1} {
			for _, float := range f.signed(f.inf() + behind) {
				wantNothing(t, float, f.size, api.ErrArg)
			}
		}
	}
	for _, high := range []uint64{1 << 32, 1 << 63, 0x3ff << 52, maxWord &^ (1<<32 - 1)} {
		for _, low := range []uint64{0, 1, 0x3f800000, 0x7f7fffff, 0x7f800000, 0x7fc00000, 0x80000000, 0xffffffff} {
			wantNothing(t, high|low, 32, api.ErrArg)
		}
	}
}
