package shortest

import (
	"math"
	"math/big"
	"strconv"
	"strings"
	"testing"

	"numeral/api"
)

const (
	maxWord = math.MaxUint64
	// places is how many places behind the point all floats and all that is half way between two of them have at most: a unit is one of the last place.
	places = 1075
)

// format is what IEEE 754 says of a size: the bits of a mantissa, the exponent of the least float, and how many digits a float needs at most.
type format struct{ size, bits, least, most int }

var (
	formats = []format{{32, 24, -149, 9}, {64, 53, -1074, 17}}
	// noSizes are numbers that are no size; some of them would be one, if they were cut to fewer bits.
	noSizes = []int{0, -1, 1, 16, 31, 33, 53, 63, 65, 128, -32, -64, 32 + 1<<32, 64 + 1<<32, math.MinInt, math.MaxInt, math.MinInt + 64}
	// tens are the powers of ten, from 0 on.
	tens  = powersOfTen(2 * places)
	fives = new(big.Int).Exp(big.NewInt(5), big.NewInt(places), nil)
)

func powersOfTen(n int) []*big.Int {
	list := []*big.Int{big.NewInt(1)}
	for i := range n {
		list = append(list, new(big.Int).Mul(list[i], big.NewInt(10)))
	}
	return list
}

func (f format) hidden() uint64   { return 1 << (f.bits - 1) }
func (f format) sign() uint64     { return 1 << (f.size - 1) }
func (f format) inf() uint64      { return f.sign() - f.hidden() }
func (f format) greatest() uint64 { return f.inf() - 1 }
func (f format) one() uint64      { return f.inf() / 2 &^ (f.hidden() - 1) }

// signed are a float with both signs.
func (f format) signed(float uint64) []uint64 { return []uint64{float, float | f.sign()} }

// named are floats at the places of weight, without a sign: 0, the least ones, the greatest denormal ones and the least that are none, 1 and powers of two about it, such as are about whole numbers of as many bits as a mantissa, the greatest, and powers of ten; and those next to them.
func (f format) named() []uint64 {
	hidden := f.hidden()
	list := []uint64{0, 1, 2, 3, 4, 5, 6, 7, 8, 9, 10, hidden/2 - 1, hidden / 2, hidden/2 + 1, hidden - 2, hidden - 1, hidden, hidden + 1, hidden + 2, 2*hidden - 1, 2 * hidden, 2*hidden + 1}
	for up := range uint64(f.bits + 4) {
		power := f.one() + (up-2)*hidden
		list = append(list, power-2, power-1, power, power+1)
	}
	for back := range uint64(3) {
		list = append(list, f.greatest()-back, f.inf()-hidden-1-back, f.inf()-hidden+back)
	}
	for point := -323; point < 309; point++ {
		ten := f.read(api.Dec{Digits: "1", Point: point + 1})
		if ten > 1 && ten < f.inf() {
			list = append(list, ten-1, ten, ten+1)
		}
	}
	return list
}

// spread calls do with n floats all over a size, without a sign, all of them finite.
func (f format) spread(n uint64, do func(float uint64)) {
	step := f.inf()/n | 1
	for i := range n {
		do((i*step ^ i*i) % f.inf())
	}
}

// steps calls do with all floats at which the exponent changes, with those ahead and behind.
func (f format) steps(do func(float uint64)) {
	for float := f.hidden(); float < f.inf(); float += f.hidden() {
		do(float - 1)
		do(float)
		do(float + 1)
	}
}

// everyKind calls do with all of these, but 0.
func (f format) everyKind(n uint64, do func(float uint64)) {
	some := func(float uint64) {
		if float != 0 {
			do(float)
		}
	}
	for _, float := range f.named() {
		some(float)
	}
	f.steps(some)
	f.spread(n, some)
}

// value is that of a float without a sign, in units; that of the infinity is the power of two behind the greatest float.
func (f format) value(float uint64) *big.Int {
	exp, mant := int(float>>(f.bits-1)), float%f.hidden()
	if exp > 0 {
		mant += f.hidden()
		exp--
	}
	x := new(big.Int).SetUint64(mant)
	x.Lsh(x, uint(exp+f.least+places))
	return x.Mul(x, fives)
}

// truth is a float's interval and its value, in units.
type truth struct {
	low, value, high *big.Int
	closed           bool
}

// truth is that of a float without a sign that is not 0.
func (f format) truth(float uint64) truth {
	half := func(float uint64) *big.Int {
		sum := new(big.Int).Add(f.value(float), f.value(float+1))
		return sum.Rsh(sum, 1)
	}
	return truth{half(float - 1), f.value(float), half(float), float%2 == 0}
}

// holds says whether a number of units lies in the interval.
func (r truth) holds(x *big.Int) bool {
	low, high := x.Cmp(r.low), x.Cmp(r.high)
	return low > 0 && high < 0 || r.closed && low*high == 0
}

// length is how many digits a whole number has.
func length(x *big.Int) int {
	n := max(0, int(float64(x.BitLen()-1)*0.30103)-1)
	for x.Cmp(tens[n]) >= 0 {
		n++
	}
	return n
}

// step is the unit of the n-th digit of a whole number, or 1.
func step(x *big.Int, n int) *big.Int { return tens[max(0, length(x)-n)] }

// upTo is the least number with at most n digits that is not below x.
func upTo(x *big.Int, n int) *big.Int {
	unit := step(x, n)
	up := new(big.Int).Add(x, unit)
	up.Sub(up, big.NewInt(1)).Quo(up, unit)
	return up.Mul(up, unit)
}

// list are the numbers with at most n digits that lie in the interval, but no more than so many of them.
func (r truth) list(n, most int) []*big.Int {
	var list []*big.Int
	one := big.NewInt(1)
	for x := upTo(r.low, n); len(list) < most && x.Cmp(r.high) <= 0; x = upTo(x.Add(x, one), n) {
		if r.holds(x) {
			list = append(list, new(big.Int).Set(x))
		}
	}
	return list
}

// sides are the numbers with at most n digits next to the value that lie in the interval.
func (r truth) sides(n int) []*big.Int {
	unit := step(r.value, n)
	down := new(big.Int).Quo(r.value, unit)
	down.Mul(down, unit)
	up := upTo(r.value, n)
	if up.Cmp(down) == 0 {
		return []*big.Int{up}
	}
	var list []*big.Int
	for _, x := range []*big.Int{down, up} {
		if r.holds(x) {
			list = append(list, x)
		}
	}
	return list
}

// far is how far from the value a number lies.
func (r truth) far(x *big.Int) *big.Int {
	far := new(big.Int).Sub(x, r.value)
	return far.Abs(far)
}

// even says whether the n-th digit of a whole number is even.
func even(x *big.Int, n int) bool { return new(big.Int).Quo(x, step(x, n)).Bit(0) == 0 }

// best is the nearest of some numbers, of two as near the one whose n-th digit is even.
func (r truth) best(t *testing.T, list []*big.Int, n int) *big.Int {
	t.Helper()
	best := list[0]
	for _, x := range list[1:] {
		order := r.far(x).Cmp(r.far(best))
		if order == 0 && even(x, n) == even(best, n) {
			t.Fatalf("%s and %s are as near, and both even or odd", told(decimal(x, places)), told(decimal(best, places)))
		}
		if order < 0 || order == 0 && even(x, n) {
			best = x
		}
	}
	return best
}

// fewest are the numbers with the fewest digits that lie in the interval, and how many digits these are.
func (r truth) fewest() ([]*big.Int, int) {
	for n := 1; ; n++ {
		if list := r.list(n, 100); len(list) > 0 {
			return list, n
		}
	}
}

// digits are a float's, by the chapter's words.
func (f format) digits(t *testing.T, float uint64) api.Dec {
	t.Helper()
	r := f.truth(float)
	list, n := r.fewest()
	return decimal(r.best(t, list, n), places)
}

// decimal is n times ten to the -places.
func decimal(n *big.Int, places int) api.Dec {
	if n.Sign() == 0 {
		return api.Dec{}
	}
	digits := n.String()
	return api.Dec{Digits: strings.TrimRight(digits, "0"), Point: len(digits) - places}
}

// read is a decimal as the library reads it.
func (f format) read(d api.Dec) uint64 {
	v, _ := strconv.ParseFloat("0."+d.Digits+"e"+strconv.Itoa(d.Point), f.size)
	if f.size == 32 {
		return uint64(math.Float32bits(float32(v)))
	}
	return math.Float64bits(v)
}

// native is a float as the machine's own.
func (f format) native(float uint64) float64 {
	if f.size == 32 {
		return float64(math.Float32frombits(uint32(float)))
	}
	return math.Float64frombits(float)
}

// library are a float's digits as the library tells them.
func (f format) library(t *testing.T, float uint64) api.Dec {
	t.Helper()
	digits, exponent, _ := strings.Cut(strconv.FormatFloat(f.native(float), 'e', -1, f.size), "e")
	point, err := strconv.Atoi(exponent)
	if err != nil {
		t.Fatal(err)
	}
	digits = strings.TrimRight(strings.Replace(digits, ".", "", 1), "0")
	return api.Dec{Digits: digits, Point: point + 1}
}

// chance is a row of words that is always the same.
type chance uint64

func (c *chance) word() uint64 {
	*c = *c*6364136223846793005 + 1442695040888963407
	x := uint64(*c)
	return x ^ x>>29 ^ x<<31
}

// within is a whole number from least to most.
func (c *chance) within(least, most int) int {
	return least + int(c.word()%uint64(most-least+1))
}

// digits are so many, the first and the last of them not 0.
func (c *chance) digits(length int) string {
	digits := make([]byte, length)
	for i := range digits {
		digits[i] = '0' + byte(c.word()%10)
	}
	for _, i := range []int{0, length - 1} {
		digits[i] = '1' + byte(c.word()%9)
	}
	return string(digits)
}

// told is a decimal on a short line.
func told(d api.Dec) string {
	digits := d.Digits
	if len(digits) > 40 {
		digits = digits[:20] + ".." + digits[len(digits)-20:] + " (" + strconv.Itoa(len(digits)) + ")"
	}
	return "0." + digits + "e" + strconv.Itoa(d.Point) + map[bool]string{true: "+"}[d.Cut]
}

func wantDigits(t *testing.T, float uint64, size int, want api.Dec, refused error) {
	t.Helper()
	if d, err := Digits(float, size); d != want || err != refused {
		t.Errorf("Digits(%#x, %d): %s, %v, want %s, %v", float, size, told(d), err, told(want), refused)
	}
	if n, err := Count(float, size); n != len(want.Digits) || err != refused {
		t.Errorf("Count(%#x, %d): %d, %v, want %d, %v", float, size, n, err, len(want.Digits), refused)
	}
}

func wantWithin(t *testing.T, float uint64, size, n int, want api.Dec, ok bool, refused error) {
	t.Helper()
	if d, found, err := Within(float, size, n); d != want || found != ok || err != refused {
		t.Errorf("Within(%#x, %d, %d): %s, %v, %v, want %s, %v, %v", float, size, n, told(d), found, err, told(want), ok, refused)
	}
}

func wantSimplest(t *testing.T, low, high api.Dec, closed bool, want api.Dec, refused error) {
	t.Helper()
	if d, err := Simplest(low, high, closed); d != want || err != refused {
		t.Errorf("Simplest(%s, %s, %v): %s, %v, want %s, %v", told(low), told(high), closed, told(d), err, told(want), refused)
	}
}

// wantNothing asks that all calls refuse a float.
func wantNothing(t *testing.T, float uint64, size int, refused error) {
	t.Helper()
	wantDigits(t, float, size, api.Dec{}, refused)
	for _, n := range []int{math.MinInt, -1, 0, 1, 9, 17, 18, math.MaxInt} {
		wantWithin(t, float, size, n, api.Dec{}, false, refused)
	}
}

// A size that is none is told ahead of all that is wrong beside it.
func TestSizesThatAreNone(t *testing.T) {
	for _, size := range noSizes {
		for _, float := range []uint64{0, 1, 0x3f800000, 0x7f7fffff, 0x7f800000, 0x7fc00000, 1 << 31, 1 << 32, 0x3ff0000000000000, 0x7ff0000000000000, 0x7ff8000000000000, 1 << 63, maxWord} {
			wantNothing(t, float, size, api.ErrBitSize)
		}
	}
}

func TestFloatsThatAreNone(t *testing.T) {
	for _, f := range formats {
		for _, behind := range []uint64{0, 1, 2, f.hidden()/2 - 1, f.hidden() / 2, f.hidden()/2 + 1, f.hidden() - 1} {
			for _, float := range f.signed(f.inf() + behind) {
				wantNothing(t, float, f.size, api.ErrArg)
			}
		}
	}
	for _, high := range []uint64{1 << 32, 1 << 63, 0x3ff << 52, maxWord &^ (1<<32 - 1)} {
		for _, low := range []uint64{0, 1, 0x3f800000, 0x7f7fffff, 0x7f800000, 0x7fc00000, 0x80000000, 0xffffffff} {
			wantNothing(t, high|low, 32, api.ErrArg)
		}
	}
}
