package compare

import (
	"math"
	"math/big"
	"strconv"
	"strings"
	"testing"

	"numeral/api"
	"numeral/meter"
)

const maxWord = math.MaxUint64

// format is what IEEE 754 says of a size: the bits of a mantissa, and the exponent of the least float.
type format struct{ size, places, least int }

var (
	formats = []format{{32, 24, -149}, {64, 53, -1074}}
	// noSizes are numbers that are no size; some of them would be one, if they were cut to fewer bits.
	noSizes = []int{0, -1, 1, 16, 31, 33, 53, 63, 65, 128, -32, -64, 32 + 1<<32, 64 + 1<<32, math.MinInt, math.MaxInt, math.MinInt + 64}
	// farPoints are points of decimals that no digits bring near to a float, the least and the greatest that there are among them.
	farPoints = []int{api.MaxPoint, api.MaxPoint - 1, 1<<32 + 5, 1 << 31, 5000, 1200, 400, 350, 311, 310, -324, -325, -350, -400, -1200, -5000, -1 << 31, 5 - 1<<32, 1 - api.MaxPoint, -api.MaxPoint}
)

func (f format) hidden() uint64 { return 1 << (f.places - 1) }
func (f format) sign() uint64   { return 1 << (f.size - 1) }
func (f format) inf() uint64    { return f.sign() - f.hidden() }
func (f format) most() uint64   { return f.inf() - 1 }
func (f format) one() uint64    { return f.inf() / 2 &^ (f.hidden() - 1) }

// named are floats at the places of weight: 0, the least ones, the least that are not denormal, 1, such as are about whole numbers of as many bits as a mantissa, the greatest.
func (f format) named() []uint64 {
	hidden := f.hidden()
	list := []uint64{0, 1, 2, 3, hidden / 2, hidden - 2, hidden - 1, hidden, hidden + 1, 2*hidden - 1, 2 * hidden, f.inf() - hidden, f.most() - 1, f.most()}
	for _, places := range []uint64{0, 1, 5, uint64(f.places - 1), uint64(f.places), uint64(f.places + 1)} {
		power := f.one() + places*hidden
		list = append(list, power-1, power, power+1)
	}
	return list
}

// spread calls do with n floats all over a size, all of them finite.
func (f format) spread(n uint64, do func(float uint64)) {
	step := f.inf()/n | 1
	for i := range n {
		do((i*step ^ i*i) % f.inf())
	}
}

// number is an exact one: n / d.
type number struct{ n, d *big.Int }

func (x number) cmp(y number) int {
	return new(big.Int).Mul(x.n, y.d).Cmp(new(big.Int).Mul(y.n, x.d))
}

// value is that of a float; that of the infinity is the power of two behind the greatest float.
func (f format) value(float uint64) number {
	exp, mant := int(float>>(f.places-1)), float%f.hidden()
	if exp > 0 {
		mant += f.hidden()
		exp--
	}
	return scaled(mant, exp+f.least)
}

// half is the place half way from a float to the next one.
func (f format) half(float uint64) number {
	low, high := f.value(float), f.value(float+1)
	sum := new(big.Int).Add(new(big.Int).Mul(low.n, high.d), new(big.Int).Mul(high.n, low.d))
	under := new(big.Int).Mul(low.d, high.d)
	return number{sum, under.Lsh(under, 1)}
}

// scaled is mant * 2^exp.
func scaled(mant uint64, exp int) number {
	n := new(big.Int).SetUint64(mant)
	return number{n.Lsh(n, uint(max(0, exp))), new(big.Int).Lsh(big.NewInt(1), uint(max(0, -exp)))}
}

func power(b, n int) *big.Int {
	return new(big.Int).Exp(big.NewInt(int64(b)), big.NewInt(int64(n)), nil)
}

// numberOf is what a decimal is without what was cut. Points far out are brought near, but not so near that a float is there.
func numberOf(d api.Dec) number {
	if d.Digits == "" {
		return number{big.NewInt(0), big.NewInt(1)}
	}
	exp := max(-450, min(d.Point, 450)) - len(d.Digits)
	n, _ := new(big.Int).SetString(d.Digits, 10)
	return number{n.Mul(n, power(10, max(0, exp))), power(10, max(0, -exp))}
}

// decimal is n times ten to the -places; false, if it has more digits than a decimal may have.
func decimal(n *big.Int, places int, cut bool) (api.Dec, bool) {
	if n.Sign() == 0 {
		return api.Dec{}, !cut
	}
	digits := n.String()
	point := len(digits) - places
	if !cut {
		digits = strings.TrimRight(digits, "0")
	}
	return api.Dec{Digits: digits, Point: point, Cut: cut}, len(digits) <= api.MaxDigits
}

// wholes is a number, whose d is a power of two, as a whole one times ten to the -places, of as few digits as it has.
func (x number) wholes() (*big.Int, int) {
	twos := x.d.BitLen() - 1
	n := new(big.Int).Mul(x.n, power(5, twos))
	for ten := big.NewInt(10); n.Sign() > 0; twos-- {
		q, r := new(big.Int).QuoRem(n, ten, new(big.Int))
		if r.Sign() != 0 {
			break
		}
		n = q
	}
	return n, twos
}

// exactly is a number, whose d is a power of two, as a decimal.
func (x number) exactly(t *testing.T) api.Dec {
	t.Helper()
	n, places := x.wholes()
	d, ok := decimal(n, places, false)
	if !ok {
		t.Fatalf("%s has too many digits", n)
	}
	return d
}

// about are decimals at a number, whose d is a power of two, and next to it: with its last digit one more and one less, with one digit more behind it and with as many as may be, with its last digit missing; each of them with Cut and without.
func (x number) about() []api.Dec {
	n, places := x.wholes()
	var list []api.Dec
	lay := func(n *big.Int, places int) {
		for _, cut := range []bool{false, true} {
			if d, ok := decimal(n, places, cut); ok && n.Sign() >= 0 {
				list = append(list, d)
			}
		}
	}
	length := len(n.String())
	for _, longer := range []int{0, 1, 20, api.MaxDigits - length, api.MaxDigits - length + 1} {
		for near := int64(-1); near <= 1; near++ {
			m := new(big.Int).Mul(n, power(10, longer))
			lay(m.Add(m, big.NewInt(near)), places+longer)
		}
	}
	for _, shorter := range []int{1, 3, length - 1, length - headDigits, length - headDigits + 1, length - headDigits - 1} {
		if 0 < shorter && shorter < length {
			down := new(big.Int).Quo(n, power(10, shorter))
			lay(down, places-shorter)
			lay(new(big.Int).Add(down, big.NewInt(1)), places-shorter)
		}
	}
	return list
}

// order is how a decimal stands to a number: what was cut is above 0, and lesser than any.
func order(d api.Dec, x number) int {
	c := numberOf(d).cmp(x)
	if c == 0 && d.Cut {
		return 1
	}
	return c
}

// inUnits is a number in units of 2^unit: the whole ones, and how what is left stands to half of one.
func (x number) inUnits(unit int) (*big.Int, int) {
	n := new(big.Int).Lsh(x.n, uint(max(0, -unit)))
	d := new(big.Int).Lsh(x.d, uint(max(0, unit)))
	q, r := n.QuoRem(n, d, new(big.Int))
	return q, r.Lsh(r, 1).Cmp(d)
}

// rounded is what the chapter says of a decimal, by whole numbers alone.
func (f format) rounded(d api.Dec) uint64 {
	x := numberOf(d)
	if x.n.Sign() == 0 {
		return 0
	}
	// The quotient in these units has as many bits as a float, or one more.
	unit := max(f.least, x.n.BitLen()-x.d.BitLen()-f.places)
	q, half := x.inUnits(unit)
	if q.BitLen() > f.places {
		unit++
		q, half = x.inUnits(unit)
	}
	float := q.Uint64()
	if half > 0 || half == 0 && (d.Cut || float%2 == 1) {
		float++
	}
	// The first bit of what is not denormal counts as one more exponent.
	return min(f.inf(), float+uint64(unit-f.least)<<(f.places-1))
}

// read is a decimal as the library reads it. No number half way between two floats has as many digits as the text here, if it is cut.
func (f format) read(d api.Dec) uint64 {
	s := "0." + d.Digits
	if d.Cut {
		s += strings.Repeat("0", api.MaxDigits) + "1"
	}
	v, _ := strconv.ParseFloat(s+"e"+strconv.Itoa(d.Point), f.size)
	if f.size == 32 {
		return uint64(math.Float32bits(float32(v)))
	}
	return math.Float64bits(v)
}

// chance is a row of words that is always the same.
type chance uint64

func (c *chance) word() uint64 {
	*c = *c*6364136223846793005 + 1442695040888963407
	x := uint64(*c)
	return x ^ x>>29 ^ x<<31
}

// within is a whole number from least to most.
func (c *chance) within(least, most int) int {
	return least + int(c.word()%uint64(most-least+1))
}

// digits are so many, neither the first nor the last one a nought.
func (c *chance) digits(n int) string {
	text := make([]byte, n)
	for i := range text {
		text[i] = '0' + byte(c.word()%10)
	}
	for _, i := range []int{0, n - 1} {
		text[i] = '1' + byte(c.word()%9)
	}
	return string(text)
}

// decimal is one with a number of digits that is as often small as great, whose point is from least to most.
func (c *chance) decimal(least, most int) api.Dec {
	length := c.within(1, 20)
	if c.word()%2 == 0 {
		length = c.within(1, api.MaxDigits)
	}
	return api.Dec{Digits: c.digits(length), Point: c.within(least, most), Cut: c.word()%4 == 0}
}

// held asks of a meter that it counted so often the road Slow and no other one, that nothing lives, and that there were not too many words.
func held(t *testing.T, call string, d api.Dec, m *meter.Meter, slow int) {
	t.Helper()
	want := meter.Tally{Peak: m.Peak(), Slow: slow}
	if m.Tally() != want || m.Peak() > api.BigCap {
		t.Errorf("%s of %s: the meter says %s", call, told(d), m.Text())
	}
}

// told is a decimal on a short line.
func told(d api.Dec) string {
	digits := d.Digits
	if len(digits) > 40 {
		digits = digits[:20] + ".." + digits[len(digits)-20:] + " (" + strconv.Itoa(len(digits)) + ")"
	}
	return "0." + digits + "e" + strconv.Itoa(d.Point) + map[bool]string{true: "+"}[d.Cut]
}

func wantWith(t *testing.T, d api.Dec, float uint64, size, want int, refused error) {
	t.Helper()
	m := meter.New()
	for _, m := range []*meter.Meter{m, nil} {
		if c, err := With(d, float, size, m); c != want || err != refused {
			t.Errorf("With(%s, %#x, %d): %d, %v, want %d, %v", told(d), float, size, c, err, want, refused)
		}
	}
	held(t, "With", d, m, 0)
}

func wantHalf(t *testing.T, d api.Dec, float uint64, size, want int, refused error) {
	t.Helper()
	m := meter.New()
	for _, m := range []*meter.Meter{m, nil} {
		if c, err := Half(d, float, size, m); c != want || err != refused {
			t.Errorf("Half(%s, %#x, %d): %d, %v, want %d, %v", told(d), float, size, c, err, want, refused)
		}
	}
	held(t, "Half", d, m, 0)
}

// wantOrder asks With and Half for what the chapter says of a decimal and a float.
func (f format) wantOrder(t *testing.T, d api.Dec, float uint64) {
	t.Helper()
	wantWith(t, d, float, f.size, order(d, f.value(float)), nil)
	wantHalf(t, d, float, f.size, order(d, f.half(float)), nil)
}

func slowRoads(refused error) int {
	if refused == nil || refused == api.ErrRange {
		return 1
	}
	return 0
}

func wantNearest(t *testing.T, d api.Dec, size int, want uint64, refused error) {
	t.Helper()
	m := meter.New()
	for _, m := range []*meter.Meter{m, nil} {
		if b, err := Nearest(d, size, m); b != want || err != refused {
			t.Errorf("Nearest(%s, %d): %#x, %v, want %#x, %v", told(d), size, b, err, want, refused)
		}
	}
	held(t, "Nearest", d, m, slowRoads(refused))
}

func wantSettle(t *testing.T, d api.Dec, guess uint64, size int, want uint64, refused error) {
	t.Helper()
	m := meter.New()
	for _, m := range []*meter.Meter{m, nil} {
		if b, err := Settle(d, guess, size, m); b != want || err != refused {
			t.Errorf("Settle(%s, %#x, %d): %#x, %v, want %#x, %v", told(d), guess, size, b, err, want, refused)
		}
	}
	held(t, "Settle", d, m, slowRoads(refused))
}

// wantFloat asks Nearest for what the chapter says of a decimal.
func (f format) wantFloat(t *testing.T, d api.Dec) {
	t.Helper()
	want := f.rounded(d)
	wantNearest(t, d, f.size, want, f.refused(want))
}

// refused is what is said beside an answer.
func (f format) refused(float uint64) error {
	if float == f.inf() {
		return api.ErrRange
	}
	return nil
}

// neverDecimals are such as may not be.
func neverDecimals() []api.Dec {
	full := strings.Repeat("7", api.MaxDigits)
	return []api.Dec{
		{Digits: "1x"}, {Digits: "-1"}, {Digits: "1.5"}, {Digits: "1/"}, {Digits: "1:"}, {Digits: "1\x00"}, {Digits: "1\xb5"}, {Digits: " 1"}, {Digits: full[1:] + "a"},
		{Digits: "0"}, {Digits: "01"}, {Digits: "01", Cut: true}, {Digits: "0", Cut: true},
		{Digits: "10"}, {Digits: "120", Point: 5}, {Digits: full[1:] + "0"},
		{Digits: full + "7"}, {Digits: full + "7", Cut: true}, {Digits: strings.Repeat("1", 9000)},
		{Digits: "1", Point: api.MaxPoint + 1}, {Digits: "1", Point: -api.MaxPoint - 1}, {Digits: "1", Point: math.MaxInt}, {Digits: "1", Point: math.MinInt, Cut: true},
		{Cut: true}, {Point: 1}, {Point: -1}, {Point: api.MaxPoint, Cut: true},
	}
}

// someDecimals are such as may be.
func someDecimals() []api.Dec {
	full := strings.Repeat("7", api.MaxDigits)
	return []api.Dec{{}, {Digits: "1"}, {Digits: "10", Cut: true}, {Digits: "5", Point: -323}, {Digits: full, Point: 400}, {Digits: full[1:] + "0", Point: -400, Cut: true}, {Digits: "1", Point: api.MaxPoint}, {Digits: "1", Point: -api.MaxPoint}}
}

// What these tests hold the calls against is what the library reads.
func TestRounded(t *testing.T) {
	c := chance(1)
	hold := func(f format, d api.Dec) {
		if got, want := f.rounded(d), f.read(d); got != want {
			t.Errorf("%s of %d: %#x, want %#x", told(d), f.size, got, want)
		}
	}
	for _, f := range formats {
		for _, float := range f.named() {
			for _, d := range append(f.half(float).about(), f.value(float).about()...) {
				hold(f, d)
			}
		}
		for range 3000 {
			hold(f, c.decimal(-330, 315))
			hold(f, c.decimal(-50, 45))
		}
	}
}
