package quick

import (
	"math"
	"strconv"
	"strings"
	"testing"

	"numeral/api"
	"numeral/shortest"
)

const maxWord = math.MaxUint64

// format is what IEEE 754 says of a size: the bits of a mantissa, the exponents of the least float and of the greatest, and how many digits a float needs at most.
type format struct{ size, bits, least, greatest, digits int }

var (
	formats = []format{{32, 24, -149, 104, 9}, {64, 53, -1074, 971, 17}}
	// noSizes are numbers that are no size; some of them would be one, if they were cut to fewer bits.
	noSizes = []int{0, -1, 1, 8, 16, 24, 31, 33, 53, 63, 65, 128, -32, -64, 32 + 1<<32, 64 + 1<<32, 64 - 1<<32, math.MinInt, math.MaxInt, math.MinInt + 32, math.MinInt + 64}
)

func (f format) hidden() uint64 { return 1 << (f.bits - 1) }
func (f format) sign() uint64   { return 1 << (f.size - 1) }
func (f format) inf() uint64    { return f.sign() - f.hidden() }
func (f format) most() uint64   { return f.inf() - 1 }
func (f format) one() uint64    { return f.inf() / 2 &^ (f.hidden() - 1) }

// power is the float 2^n, for an n that is not denormal.
func (f format) power(n int) uint64 { return f.one() + uint64(n)*f.hidden() }

// signed are a float with both signs.
func (f format) signed(float uint64) []uint64 { return []uint64{float, float | f.sign()} }

// named are floats at the places of weight, without a sign: the least ones, the greatest denormal ones and the least that are none, those about 1 and about whole numbers of as many bits as a mantissa, the greatest, and powers of ten; and those next to them.
func (f format) named() []uint64 {
	hidden := f.hidden()
	list := []uint64{1, 2, 3, 4, 5, 6, 7, 8, 9, 10, hidden/2 - 1, hidden / 2, hidden/2 + 1, hidden - 2, hidden - 1, hidden, hidden + 1, hidden + 2, 2*hidden - 1, 2 * hidden, 2*hidden + 1}
	for n := -2; n < f.bits+4; n++ {
		power := f.power(n)
		list = append(list, power-2, power-1, power, power+1)
	}
	for back := range uint64(3) {
		list = append(list, f.most()-back, f.inf()-hidden-1-back, f.inf()-hidden+back)
	}
	for point := -322; point < 310; point++ {
		ten := f.read(api.Dec{Digits: "1", Point: point})
		if ten > 1 && ten < f.inf() {
			list = append(list, ten-1, ten, ten+1)
		}
	}
	return list
}

// everyKind calls do with these, with all floats at which the exponent changes and those next to them, and with n floats all over the size.
func (f format) everyKind(n uint64, do func(float uint64)) {
	for _, float := range f.named() {
		do(float)
	}
	for float := f.hidden(); float < f.inf(); float += f.hidden() {
		do(float - 1)
		do(float)
		do(float + 1)
	}
	step := f.inf()/n | 1
	for i := range n {
		do(max(1, (i*step^i*i)%f.inf()))
	}
}

// native is a float as the machine's own.
func (f format) native(float uint64) float64 {
	if f.size == 32 {
		return float64(math.Float32frombits(uint32(float)))
	}
	return math.Float64frombits(float)
}

// of is the float of a whole number that is one.
func (f format) of(n uint64) uint64 {
	if f.size == 32 {
		return uint64(math.Float32bits(float32(n)))
	}
	return math.Float64bits(float64(n))
}

// read is a decimal as the library reads it.
func (f format) read(d api.Dec) uint64 {
	v, _ := strconv.ParseFloat("0."+d.Digits+"e"+strconv.Itoa(d.Point), f.size)
	if f.size == 32 {
		return uint64(math.Float32bits(float32(v)))
	}
	return math.Float64bits(v)
}

// decimal is n times ten to the e.
func decimal(n uint64, e int) api.Dec {
	if n == 0 {
		return api.Dec{}
	}
	digits := strconv.FormatUint(n, 10)
	return api.Dec{Digits: strings.TrimRight(digits, "0"), Point: len(digits) + e}
}

// number are a decimal's digits as a whole number, and its exponent.
func number(t *testing.T, d api.Dec) (uint64, int) {
	t.Helper()
	n, err := strconv.ParseUint(d.Digits, 10, 64)
	if err != nil {
		t.Fatal(err)
	}
	return n, d.Point - len(d.Digits)
}

// library are a float's digits as the library tells them.
func (f format) library(t *testing.T, float uint64) api.Dec {
	t.Helper()
	digits, exponent, _ := strings.Cut(strconv.FormatFloat(f.native(float), 'e', -1, f.size), "e")
	point, err := strconv.Atoi(exponent)
	if err != nil {
		t.Fatal(err)
	}
	digits = strings.TrimRight(strings.Replace(digits, ".", "", 1), "0")
	return api.Dec{Digits: digits, Point: point + 1}
}

// chance is a row of words that is always the same.
type chance uint64

func (c *chance) word() uint64 {
	*c = *c*6364136223846793005 + 1442695040888963407
	x := uint64(*c)
	return x ^ x>>29 ^ x<<31
}

// within is a whole number from least to most.
func (c *chance) within(least, most int) int {
	return least + int(c.word()%uint64(most-least+1))
}

// told is a decimal on a line.
func told(d api.Dec) string {
	return "0." + d.Digits + "e" + strconv.Itoa(d.Point) + map[bool]string{true: "+"}[d.Cut]
}

// wantOrNotSure asks for a float's digits and true, or for the zero Dec and false, and tells which it was.
func (f format) wantOrNotSure(t *testing.T, float uint64, want api.Dec) bool {
	t.Helper()
	d, sure, err := Shortest(float, f.size)
	if !sure {
		want = api.Dec{}
	}
	if d != want || err != nil {
		t.Errorf("Shortest(%#x, %d): %s, %v, %v, want %s", float, f.size, told(d), sure, err, told(want))
	}
	return sure
}

// wantSure asks for digits and true, for both signs.
func (f format) wantSure(t *testing.T, float uint64, want api.Dec) {
	t.Helper()
	for _, float := range f.signed(float) {
		if !f.wantOrNotSure(t, float, want) {
			t.Errorf("Shortest(%#x, %d) is not sure of %s", float, f.size, told(want))
		}
	}
}

// hold asks that what is told of a float without a sign is what layer 20 tells and what the library tells, or not sure; and the same for both signs. It tells whether it was sure.
func (f format) hold(t *testing.T, float uint64) bool {
	t.Helper()
	want, err := shortest.Digits(float, f.size)
	if err != nil {
		t.Fatalf("Digits(%#x, %d): %v", float, f.size, err)
	}
	if other := f.library(t, float); want != other {
		t.Fatalf("%#x of %d: layer 20 tells %s, the library %s", float, f.size, told(want), told(other))
	}
	sure := f.wantOrNotSure(t, float, want)
	if f.wantOrNotSure(t, float|f.sign(), want) != sure {
		t.Errorf("%#x of %d is sure with one sign alone", float, f.size)
	}
	return sure
}

func wantRefused(t *testing.T, float uint64, size int, want api.Errno) {
	t.Helper()
	if d, sure, err := Shortest(float, size); d != (api.Dec{}) || sure || err != want {
		t.Errorf("Shortest(%#x, %d): %s, %v, %v, want %v", float, size, told(d), sure, err, want)
	}
}

// A size that is none is told ahead of all that is wrong beside it.
func TestQU1SizesThatAreNone(t *testing.T) {
	for _, size := range noSizes {
		for _, float := range []uint64{0, 1, 0x3f800000, 0x7f7fffff, 0x7f800000, 0x7fc00000, 1 << 31, 1<<32 - 1, 1 << 32, 0x3ff0000000000000, 0x7ff0000000000000, 0x7ff8000000000000, 1 << 63, maxWord} {
			wantRefused(t, float, size, api.ErrBitSize)
		}
	}
}

func TestQU1FloatsThatAreNone(t *testing.T) {
	for _, f := range formats {
		for _, nought := range f.signed(0) {
			wantRefused(t, nought, f.size, api.ErrArg)
		}
		// The infinity, and behind it NaNs, quiet ones and others.
		for _, behind := range []uint64{0, 1, 2, f.hidden()/2 - 1, f.hidden() / 2, f.hidden()/2 + 1, f.hidden() - 1} {
			for _, float := range f.signed(f.inf() + behind) {
				wantRefused(t, float, f.size, api.ErrArg)
			}
		}
	}
}

// Bits above those of size 32 are refused, whatever stands below them.
func TestQU1BitsAboveTheSize(t *testing.T) {
	for _, high := range []uint64{1 << 32, 1 << 33, 1 << 63, 0x3ff << 52, maxWord &^ (1<<32 - 1)} {
		for _, low := range []uint64{0, 1, 0x3f800000, 0x42c80000, 0x7f7fffff, 0x7f800000, 0x7fc00000, 0x80000000, 0xffffffff} {
			wantRefused(t, high|low, 32, api.ErrArg)
		}
	}
}

// Whatever bits and sizes are given, there is an answer, with nothing beside an error.
func TestQU1Total(t *testing.T) {
	c := chance(1)
	for range 20000 {
		float, size := c.word()>>c.within(0, 63), c.within(-130, 130)
		if size != 32 && size != 64 {
			wantRefused(t, float, size, api.ErrBitSize)
		}
		for _, size := range []int{32, 64} {
			if d, sure, err := Shortest(float, size); (err != nil || !sure) && (d != api.Dec{} || err != nil && sure) {
				t.Errorf("Shortest(%#x, %d): %s, %v, %v", float, size, told(d), sure, err)
			}
		}
	}
}
