package parse

import (
	"errors"
	"fmt"
	"math"
	"math/big"
	"regexp"
	"strconv"
	"strings"
	"testing"

	"numeral/api"
	"numeral/fault"
	"numeral/meter"
)

var (
	// noSizes are numbers that are no size; some of them would be one, if they were cut to fewer bits.
	noSizes = []int{0, -1, 1, 8, 16, 24, 31, 33, 53, 63, 65, 128, -32, -64, 32 << 8, 32 + 1<<32, 64 + 1<<32, 64 - 1<<32, math.MinInt, math.MaxInt, math.MinInt + 32, math.MinInt + 64}
	// errnos are all numbers of errors.
	errnos = []api.Errno{api.ErrArg, api.ErrLong, api.ErrSyntax, api.ErrRange, api.ErrBitSize, api.ErrWidth, api.ErrBase, api.ErrPrecision, api.ErrLayout, api.ErrZero, api.ErrBig, api.ErrBelow, api.ErrDigits, api.ErrCall, api.ErrLine}
	// texts are all kinds that the grammar has, refused ones among them.
	texts = []string{
		"", "+", "-", ".", "1e", "1x", " 1", "1 ", "1__0", "_1", "+nan", "0x1", "0x.p0", "infx",
		"nan", "NaN", "inf", "-Inf", "+INFINITY", "0", "-0", "0.000e5", "-0x0p0", "0e99999999999999999999",
		"1", "-1", "0.1", "12.5e3", "1e23", "9007199254740993", "16777217", "1e400", "-1e400", "1e-400", "-1e-400", "3.5e38", "1e-46",
		"0x1.8p-3", "-0x1p-1074", "0x1p2000", "-0x1p-2000", "1_0.2_5e+1_0", "9007199254740993.00000000000000000000000000000000000001",
	}
)

// format is what IEEE 754 says of a size: the bits of a mantissa, and the exponent of the least float.
type format struct{ size, places, least int }

var formats = []format{{32, 24, -149}, {64, 53, -1074}}

func (f format) hidden() uint64 { return 1 << (f.places - 1) }
func (f format) sign() uint64   { return 1 << (f.size - 1) }
func (f format) inf() uint64    { return f.sign() - f.hidden() }
func (f format) nan() uint64    { return f.inf() + f.hidden()/2 }
func (f format) most() uint64   { return f.inf() - 1 }
func (f format) one() uint64    { return f.inf() / 2 &^ (f.hidden() - 1) }

// named are floats at the places of weight: 0, the least ones, the least that are not denormal, 1, such as are about whole numbers of as many bits as a mantissa, the greatest.
func (f format) named() []uint64 {
	hidden := f.hidden()
	list := []uint64{0, 1, 2, 3, hidden / 2, hidden - 2, hidden - 1, hidden, hidden + 1, 2*hidden - 1, 2 * hidden, f.inf() - hidden, f.most() - 1, f.most()}
	for _, places := range []uint64{0, 1, 5, uint64(f.places - 1), uint64(f.places), uint64(f.places + 1)} {
		power := f.one() + places*hidden
		list = append(list, power-1, power, power+1)
	}
	return list
}

// spread calls do with n floats all over a size, all of them finite.
func (f format) spread(n uint64, do func(float uint64)) {
	step := f.inf()/n | 1
	for i := range n {
		do((i*step ^ i*i) % f.inf())
	}
}

// number is an exact one that is not below 0: n / d.
type number struct{ n, d *big.Int }

func (x number) cmp(y number) int {
	return new(big.Int).Mul(x.n, y.d).Cmp(new(big.Int).Mul(y.n, x.d))
}

// value is that of a float; that of the infinity is the power of two behind the greatest float.
func (f format) value(float uint64) number {
	exp, mant := int(float>>(f.places-1)), float%f.hidden()
	if exp > 0 {
		mant += f.hidden()
		exp--
	}
	n := new(big.Int).SetUint64(mant)
	exp += f.least
	return number{n.Lsh(n, uint(max(0, exp))), new(big.Int).Lsh(big.NewInt(1), uint(max(0, -exp)))}
}

// half is the place half way from a float to the next one.
func (f format) half(float uint64) number {
	low, high := f.value(float), f.value(float+1)
	sum := new(big.Int).Add(new(big.Int).Mul(low.n, high.d), new(big.Int).Mul(high.n, low.d))
	under := new(big.Int).Mul(low.d, high.d)
	return number{sum, under.Lsh(under, 1)}
}

func power(b, n int) *big.Int {
	return new(big.Int).Exp(big.NewInt(int64(b)), big.NewInt(int64(n)), nil)
}

// decimal is a number as a row of digits and where its point stands: 0.digits times ten to the point.
type decimal struct {
	digits string
	point  int
}

// decimal is a number, whose d is a power of two, with all of its digits, of a whole one with the noughts at its end.
func (x number) decimal() decimal {
	places := x.d.BitLen() - 1
	digits := new(big.Int).Mul(x.n, power(5, places)).String()
	if digits == "0" {
		return decimal{"0", 1}
	}
	point := len(digits) - places
	whole := max(0, point)
	return decimal{digits[:whole] + strings.TrimRight(digits[whole:], "0"), point}
}

// below is one unit of the last place less, with so many nines behind it.
func (d decimal) below(nines int) decimal {
	n, _ := new(big.Int).SetString(d.digits+strings.Repeat("0", nines), 10)
	digits := n.Sub(n, big.NewInt(1)).String()
	short := len(d.digits) + nines - len(digits)
	return decimal{strings.Repeat("0", short) + digits, d.point}
}

// above is what has one more digit behind so many noughts.
func (d decimal) above(noughts int) decimal {
	return decimal{d.digits + strings.Repeat("0", noughts) + "1", d.point}
}

// at is the text of a decimal with its point at a place among, ahead of or behind its digits.
func (d decimal) at(place int) string {
	var s string
	switch {
	case place <= 0:
		s = "0." + strings.Repeat("0", -place) + d.digits
	case place < len(d.digits):
		s = d.digits[:place] + "." + d.digits[place:]
	default:
		s = d.digits + strings.Repeat("0", place-len(d.digits))
	}
	if place == d.point {
		return s
	}
	return s + "e" + strconv.Itoa(d.point-place)
}

// written are texts of a decimal: without an exponent, with its point ahead of all digits, behind the first, among and behind them, with noughts ahead and behind, with underscores.
func (d decimal) written() []string {
	n := len(d.digits)
	list := []string{d.at(d.point), d.at(0), d.at(1), d.at(n / 2), d.at(n), d.at(n + 5), d.at(-5)}
	noughts := strings.Repeat("0", 30)
	long := decimal{noughts + d.digits + noughts, d.point + len(noughts)}
	joined := strings.Join(strings.Split(d.digits, ""), "_") + "_0.0_0E" + strconv.Itoa(d.point-n-1)
	return append(list, long.at(len(noughts)+1), strings.ToUpper(long.at(d.point+len(noughts))), joined)
}

var decimalText = regexp.MustCompile(`^[+-]?([0-9]*)\.?([0-9]*)(?:[eE]([+-]?[0-9]+))?$`)

// rows are the digits of a decimal text ahead of its point and behind it, and its exponent, or the empty text.
func rows(t *testing.T, s string) (whole, part, exp string) {
	t.Helper()
	rows := decimalText.FindStringSubmatch(strings.ReplaceAll(s, "_", ""))
	if rows == nil {
		t.Fatalf("%.60q is no decimal", s)
	}
	return rows[1], rows[2], rows[3]
}

// numberOf is that which a decimal text denotes, without its sign. An exponent for which no digits of the text make up is brought near.
func numberOf(t *testing.T, s string) number {
	t.Helper()
	whole, part, written := rows(t, s)
	n, _ := new(big.Int).SetString("0"+whole+part, 10)
	exp := new(big.Int)
	if written != "" {
		exp.SetString(written, 10)
	}
	far := big.NewInt(int64(len(s) + 1000))
	if exp.CmpAbs(far) > 0 {
		exp.Mul(far, big.NewInt(int64(exp.Sign())))
	}
	places := int(exp.Int64()) - len(part)
	return number{n.Mul(n, power(10, max(0, places))), power(10, max(0, -places))}
}

// inUnits is a number in units of 2^unit: the whole ones, and how what is left stands to half of one.
func (x number) inUnits(unit int) (*big.Int, int) {
	n := new(big.Int).Lsh(x.n, uint(max(0, -unit)))
	d := new(big.Int).Lsh(x.d, uint(max(0, unit)))
	q, r := n.QuoRem(n, d, new(big.Int))
	return q, r.Lsh(r, 1).Cmp(d)
}

// rounded is a number as a float, by whole numbers alone; the infinity, if it is beyond.
func (f format) rounded(x number) uint64 {
	if x.n.Sign() == 0 {
		return 0
	}
	// The quotient in these units has as many bits as a float, or one more.
	unit := max(f.least, x.n.BitLen()-x.d.BitLen()-f.places)
	q, half := x.inUnits(unit)
	if q.BitLen() > f.places {
		unit++
		q, half = x.inUnits(unit)
	}
	float := q.Uint64()
	if half > 0 || half == 0 && float%2 == 1 {
		float++
	}
	if unit > -f.least {
		return f.inf()
	}
	// The first bit of what is not denormal counts as one more exponent.
	return min(f.inf(), float+uint64(unit-f.least)<<(f.places-1))
}

// read is a text as the library reads it, and whether it is beyond.
func (f format) read(t *testing.T, s string) (uint64, bool) {
	t.Helper()
	v, err := strconv.ParseFloat(strings.ReplaceAll(s, "_", ""), f.size)
	if errors.Is(err, strconv.ErrSyntax) {
		t.Fatalf("the library doesn't read %.60q", s)
	}
	if f.size == 32 {
		return uint64(math.Float32bits(float32(v))), err != nil
	}
	return math.Float64bits(v), err != nil
}

// told is a call, short enough to be read.
func told(call string, size int, texts ...string) string {
	s := fmt.Sprintf("%.80q", texts)
	return fmt.Sprintf("%s(%.200s, %d)", call, s, size)
}

// wantError asks for a Fault with these fields, or for none, if the number is 0; through it just that number is found.
func wantError(t *testing.T, what string, err error, call, text string, number api.Errno) {
	t.Helper()
	if number == 0 {
		if err != nil {
			t.Errorf("%s: %.90v", what, err)
		}
		return
	}
	f, ok := err.(*fault.Fault)
	if !ok || f == nil {
		t.Errorf("%s: %.90v, want a fault with %v", what, err, number)
		return
	}
	if f.Call != call || f.Text != text || f.Err != error(number) {
		t.Errorf("%s: %q, %.60q, %v, want %q, %.60q, %v", what, f.Call, f.Text, f.Err, call, text, number)
	}
	for _, e := range errnos {
		if errors.Is(err, e) != (e == number) {
			t.Errorf("%s: errors.Is(.., %v) is %v", what, e, e != number)
		}
	}
	if why := fault.Why(err); why != number {
		t.Errorf("%s: Why is %v, want %v", what, why, number)
	}
}

// wantParse asks Parse, without a meter and with one, and Prefix, for which the text is the whole begin, if it is in the grammar.
func wantParse(t *testing.T, s string, size int, want uint64, number api.Errno) {
	t.Helper()
	for _, m := range []*meter.Meter{nil, meter.New()} {
		b, err := Parse(s, size, m)
		what := told("Parse", size, s)
		if b != want {
			t.Errorf("%s = %#x, want %#x (%d bytes)", what, b, want, len(s))
		}
		wantError(t, what, err, "Parse", s, number)
	}
	if number == 0 || number == api.ErrRange {
		wantPrefix(t, s, size, want, len(s), number)
	}
}

func wantPrefix(t *testing.T, s string, size int, want uint64, length int, number api.Errno) {
	t.Helper()
	b, n, err := Prefix(s, size, nil)
	what := told("Prefix", size, s)
	if b != want || n != length {
		t.Errorf("%s = %#x, %d, want %#x, %d (%d bytes)", what, b, n, want, length, len(s))
	}
	wantError(t, what, err, "Prefix", s, number)
}

// wantFloat asks for a magnitude with each sign; of the infinity with ErrRange.
func (f format) wantFloat(t *testing.T, s string, float uint64) {
	t.Helper()
	number := api.Errno(0)
	if float == f.inf() {
		number = api.ErrRange
	}
	for _, sign := range []string{"", "+"} {
		wantParse(t, sign+s, f.size, float, number)
	}
	wantParse(t, "-"+s, f.size, f.sign()|float, number)
}

// wantDecimal asks for a decimal in all ways of writing it.
func (f format) wantDecimal(t *testing.T, d decimal, float uint64) {
	t.Helper()
	for _, s := range d.written() {
		f.wantFloat(t, s, float)
	}
}

// wantRight asks for what the chapter says of a decimal text without a sign.
func (f format) wantRight(t *testing.T, s string) {
	t.Helper()
	f.wantFloat(t, s, f.rounded(numberOf(t, s)))
}

// chance is a row of words that is always the same.
type chance uint64

func (c *chance) word() uint64 {
	*c = *c*6364136223846793005 + 1442695040888963407
	x := uint64(*c)
	return x ^ x>>29 ^ x<<31
}

// within is a whole number from least to most.
func (c *chance) within(least, most int) int {
	return least + int(c.word()%uint64(most-least+1))
}

// digits are so many.
func (c *chance) digits(n int) string {
	text := make([]byte, n)
	for i := range text {
		text[i] = '0' + byte(c.word()%10)
	}
	return string(text)
}

// text is one of a decimal that is neither too great nor too small for floats, most of the time.
func (c *chance) text(most int, f format) string {
	n := c.within(1, most)
	s := c.digits(n)
	if point := c.within(0, n); point < n || c.word()%2 == 0 {
		s = s[:point] + "." + s[point:]
	}
	if c.word()%8 == 0 {
		return s
	}
	reach := map[int]int{32: 48, 64: 330}[f.size]
	return s + "e" + strconv.Itoa(c.within(-reach, reach))
}

// What these tests hold Parse against is what the library reads, but where more than 800 digits stand ahead of the point: of these it loses count.
func TestModel(t *testing.T) {
	c := chance(1)
	for _, f := range formats {
		count := 0
		hold := func(s string) {
			t.Helper()
			if whole, _, _ := rows(t, s); len(whole) > 800 {
				return
			}
			count++
			want, _ := f.read(t, s)
			if b := f.rounded(numberOf(t, s)); b != want {
				t.Errorf("%.60q of %d: %#x, want %#x", s, f.size, b, want)
			}
		}
		for range 20000 {
			hold(c.text(40, f))
		}
		for range 500 {
			hold(c.text(900, f))
		}
		for _, float := range f.named() {
			for _, d := range []decimal{f.value(float).decimal(), f.half(float).decimal(), f.half(float).decimal().above(900), f.half(float).decimal().below(900)} {
				for _, s := range d.written() {
					hold(s)
				}
			}
		}
		if count < 20000 {
			t.Errorf("of size %d %d texts", f.size, count)
		}
	}
}
