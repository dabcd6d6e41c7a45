package parse

import (
	"strconv"
	"strings"
	"testing"

	"numeral/api"
)

// The document's examples, and floats known by name.
func TestPS1Named(t *testing.T) {
	for _, c := range []struct {
		s      string
		size   int
		want   uint64
		number api.Errno
	}{
		{"0.1", 64, 0x3fb999999999999a, 0},
		{"0.1", 32, 0x3dcccccd, 0},
		{"1e400", 64, 0x7ff0000000000000, api.ErrRange},
		{"-1e400", 32, 0xff800000, api.ErrRange},
		{"-0", 32, 0x80000000, 0},
		{"-0", 64, 0x8000000000000000, 0},
		{"0x1p-1074", 64, 1, 0},
		{"0x1p-149", 32, 1, 0},
		{"9007199254740993", 64, 0x4340000000000000, 0},
		{"9007199254740993.0000000000000000000000000000001", 64, 0x4340000000000001, 0},
		{"9007199254740995", 64, 0x4340000000000002, 0},
		{"16777217", 32, 0x4b800000, 0},
		{"16777219", 32, 0x4b800002, 0},
		{"3.4028235e38", 32, 0x7f7fffff, 0},
		{"3.5e38", 32, 0x7f800000, api.ErrRange},
		{"3.5e38", 64, 0x47f074f8c4d3cd7b, 0},
		{"1.7976931348623157e308", 64, 0x7fefffffffffffff, 0},
		{"1.7976931348623159e308", 64, 0x7ff0000000000000, api.ErrRange},
		{"5e-324", 64, 1, 0},
		{"-4.9e-324", 64, 0x8000000000000001, 0},
		{"2.4703282292062327e-324", 64, 0, 0},
		{"2.4703282292062328e-324", 64, 1, 0},
		{"2.2250738585072014e-308", 64, 1 << 52, 0},
		{"2.2250738585072011e-308", 64, 1<<52 - 1, 0},
		{"1.17549435e-38", 32, 1 << 23, 0},
		{"1e-45", 32, 1, 0},
		{"7e-46", 32, 0, 0},
		{"1e23", 64, 0x44b52d02c7e14af6, 0},
		{"8.5e22", 64, 0x44b1ffdbf6b2b2eb, 0},
		{"1", 64, 0x3ff0000000000000, 0},
		{"+1.", 32, 0x3f800000, 0},
		{".5", 32, 0x3f000000, 0},
		{"-12.50e3", 64, 0xc0c86a0000000000, 0},
		{"1_0.2_5e+0_1", 64, 0x4059a00000000000, 0},
		{"0x1.8p-3", 64, 0x3fc8000000000000, 0},
		{"-0X_1.80P+0", 32, 0xbfc00000, 0},
		{"nan", 64, 0x7ff8000000000000, 0},
		{"NaN", 32, 0x7fc00000, 0},
		{"-Infinity", 64, 0xfff0000000000000, 0},
		{"inf", 32, 0x7f800000, 0},
	} {
		wantParse(t, c.s, c.size, c.want, c.number)
	}
}

// Noughts keep their sign, however they are written, and so does what comes to 0.
func TestPS1Noughts(t *testing.T) {
	many := strings.Repeat("0", 5000)
	nines := strings.Repeat("9", 300)
	for _, s := range []string{
		"0", "00", "0.", ".0", "0.0", "000.000", "0_0.0_0", "0e0", "0E-0", "0e+5", ".0e5", "0.e-5", many, many + "." + many, "." + many + "e77",
		"0e400", "0e-400", "0e99999999999999999999", "0e-99999999999999999999", "0.0e" + nines, "0.0e-" + nines, "0e9223372036854775808",
		"0x0p0", "0x.0p0", "0x0.p-5", "0X_0.0P+7", "0x" + many + "." + many + "p1", "0x0p" + nines, "0x0p-" + nines,
		"1e-400", "9e-400", "1e-99999999999999999999", "." + many + "1", "9" + many + "e-10000", nines + "e-" + nines, "0x1p-1200", "0xfp-" + nines, "0x." + many + "1p0",
	} {
		for _, f := range formats {
			f.wantFloat(t, s, 0)
		}
	}
}

// Exponents far beyond an int are read as what they are: digits that make up for them would be too many.
func TestPS1FarExponents(t *testing.T) {
	noughts := strings.Repeat("0", 400)
	for _, exp := range []string{"401", "5000", "99999", "2147483647", "2147483648", "4294967296", "4294967297", "1099511627775", "1099511627776", "1099511627777", "9223372036854775807", "9223372036854775808", "9223372036854775809", "18446744073709551615", "18446744073709551616", "18446744073709551617", "340282366920938463463374607431768211456", "000000000000000000000000000000401", strings.Repeat("9", 5000), "1_" + strings.Repeat("0", 100)} {
		for _, digits := range []string{"1", "0.5", "123456789.987654321", ".000000000001", strings.Repeat("7", 20), strings.Repeat("7", 900) + "." + strings.Repeat("7", 900)} {
			for _, f := range formats {
				f.wantFloat(t, digits+"e"+exp, f.rounded(numberOf(t, digits+"e"+exp)))
				f.wantFloat(t, digits+"E+"+exp, f.rounded(numberOf(t, digits+"E+"+exp)))
				f.wantFloat(t, digits+"e-"+exp, f.rounded(numberOf(t, digits+"e-"+exp)))
			}
		}
	}
	// Where the digits do make up for it, it is an ordinary number.
	for _, f := range formats {
		f.wantFloat(t, "1"+noughts+"e-400", f.one())
		f.wantFloat(t, "0."+noughts+"1e401", f.one())
		f.wantFloat(t, "1"+strings.Repeat("0", 70000)+"e-70000", f.one())
		f.wantFloat(t, "."+strings.Repeat("0", 70000)+"1e+70001", f.one())
		f.wantFloat(t, "0x1"+strings.Repeat("0", 70000)+"p-280000", f.one())
		f.wantFloat(t, "0x."+strings.Repeat("0", 70000)+"1p280004", f.one())
	}
}

// about asks for a half way place and for what lies next to it, far behind more than 800 digits, too.
func (f format) about(t *testing.T, float uint64) {
	t.Helper()
	d := f.half(float).decimal()
	even := float + float%2
	f.wantDecimal(t, d, even)
	for _, far := range []int{0, 1, 20, 800 - len(d.digits), 801 - len(d.digits), 900, 3000} {
		if far < 0 {
			continue
		}
		f.wantDecimal(t, d.above(far), float+1)
		f.wantDecimal(t, d.below(far), float)
	}
}

func TestPS1HalfWay(t *testing.T) {
	for _, f := range formats {
		for _, float := range f.named() {
			f.about(t, float)
		}
		f.spread(40, func(float uint64) { f.about(t, float) })
	}
}

// Half way beyond the greatest float is the infinity, with ErrRange; all below it is the greatest.
func TestPS1Greatest(t *testing.T) {
	for _, f := range formats {
		most := f.value(f.most()).decimal()
		f.wantDecimal(t, most, f.most())
		f.wantDecimal(t, most.above(0), f.most())
		f.wantDecimal(t, most.above(900), f.most())
		f.wantDecimal(t, most.below(0), f.most())
		half := f.half(f.most()).decimal()
		f.wantDecimal(t, half, f.inf())
		for _, far := range []int{0, 1, 30, 800, 2000} {
			f.wantDecimal(t, half.above(far), f.inf())
			f.wantDecimal(t, half.below(far), f.most())
		}
		f.wantDecimal(t, f.value(f.inf()).decimal(), f.inf())
	}
	for _, c := range []struct {
		s string
		f format
	}{
		{"0x1.fffffe", formats[0]}, {"0x1.fffffffffffff", formats[1]},
	} {
		end := map[int]string{32: "p127", 64: "p1023"}[c.f.size]
		half := map[int]string{32: "0x1.ffffff", 64: "0x1.fffffffffffff8"}[c.f.size]
		below := map[int]string{32: "0x1.fffffefff", 64: "0x1.fffffffffffff7ff"}[c.f.size]
		c.f.wantFloat(t, c.s+end, c.f.most())
		c.f.wantFloat(t, half+end, c.f.inf())
		c.f.wantFloat(t, half+strings.Repeat("0", 900)+"1"+end, c.f.inf())
		c.f.wantFloat(t, below+end, c.f.most())
		c.f.wantFloat(t, below+strings.Repeat("f", 900)+end, c.f.most())
	}
}

// Half of the least float is a nought, all above it is the least.
func TestPS1Least(t *testing.T) {
	for _, f := range formats {
		f.wantDecimal(t, f.value(1).decimal(), 1)
		half := f.half(0).decimal()
		f.wantDecimal(t, half, 0)
		for _, far := range []int{0, 1, 30, 800, 2000} {
			f.wantDecimal(t, half.above(far), 1)
			f.wantDecimal(t, half.below(far), 0)
		}
		f.wantDecimal(t, f.half(1).decimal(), 2)
		f.wantDecimal(t, f.half(1).decimal().below(900), 1)
		for exp, want := range map[int]uint64{f.least: 1, f.least - 1: 0, f.least - 2: 0, f.least + 1: 2} {
			f.wantFloat(t, "0x1p"+strconv.Itoa(exp), want)
		}
		f.wantFloat(t, "0x1."+strings.Repeat("0", 900)+"1p"+strconv.Itoa(f.least-1), 1)
		f.wantFloat(t, "0x.f"+strings.Repeat("f", 900)+"p"+strconv.Itoa(f.least-1), 0)
		// The least one that is not denormal, and its neighbours.
		for _, float := range []uint64{f.hidden() - 1, f.hidden(), f.hidden() + 1} {
			f.wantDecimal(t, f.value(float).decimal(), float)
			f.wantDecimal(t, f.value(float).decimal().above(900), float)
			f.wantDecimal(t, f.value(float).decimal().below(900), float)
		}
	}
}

// Digits of many thousand places, with noughts ahead and behind.
func TestPS1LongTexts(t *testing.T) {
	c := chance(2)
	noughts := strings.Repeat("0", 20000)
	for _, f := range formats {
		for _, digit := range []string{"1", "4", "5", "9"} {
			for _, n := range []int{799, 800, 801, 5000, 50000} {
				row := strings.Repeat(digit, n)
				f.wantRight(t, "0."+row)
				f.wantRight(t, row+"e-"+strconv.Itoa(n))
				f.wantRight(t, noughts+"7."+row+noughts)
				f.wantRight(t, "."+noughts+row+noughts+"e20010")
				f.wantRight(t, row+noughts+"e-"+strconv.Itoa(20000+n-30))
			}
		}
		f.wantRight(t, c.digits(100000)+"e-100010")
		f.wantRight(t, "0."+c.digits(100000)+"e20")
		f.wantFloat(t, strings.Repeat("9", 100000), f.inf())
		f.wantFloat(t, noughts+"1"+"."+noughts, f.one())
		f.wantFloat(t, strings.Repeat("0_", 10000)+"1."+strings.Repeat("0_", 10000)+"0", f.one())
		// One digit far behind tells only that there is more; at 1 nothing is half way.
		f.wantFloat(t, "1."+noughts+noughts+"1", f.one())
		f.wantDecimal(t, f.half(f.one()).decimal().above(40000), f.one()+1)
		f.wantDecimal(t, f.half(f.one()+1).decimal().below(40000), f.one()+1)
	}
}

// Numbers of few digits and of many, at all exponents, against exact whole numbers.
func TestPS1ManyDecimals(t *testing.T) {
	c := chance(3)
	for _, f := range formats {
		for range 8000 {
			f.wantRight(t, c.text(25, f))
		}
		for range 100 {
			f.wantRight(t, c.text(1200, f))
		}
		for exp := -400; exp <= 400; exp++ {
			for _, digits := range []string{"1", "9", "123456789012345678", "1234567890123456789", "9999999999999999999", "18446744073709551615", "18446744073709551616", "99999999999999999999", "3.00000000000000000000000000000000000001"} {
				s := digits + "e" + strconv.Itoa(exp)
				want := f.rounded(numberOf(t, s))
				number := api.Errno(0)
				if want == f.inf() {
					number = api.ErrRange
				}
				wantParse(t, s, f.size, want, number)
			}
		}
	}
}

// Hexadecimals against what the library reads, with digits behind the sixteenth and noughts among them.
func TestPS1Hexadecimals(t *testing.T) {
	c := chance(4)
	hold := func(f format, s string) {
		t.Helper()
		want, beyond := f.read(t, s)
		number := api.Errno(0)
		if beyond {
			number = api.ErrRange
		}
		wantParse(t, s, f.size, want, number)
	}
	for _, f := range formats {
		for _, s := range []string{"0x1p0", "0X1P0", "0xap1", "0xAp+1", "-0xa.8p-1", "0x.8p1", "0x8.p1", "0x_f.fp0", "0x1_0p0", "0x123456789abcdef01.8p-60", "0x1.00000000000008p0", "0x1.00000000000018p0", "0x1.000001p0", "0x1.000003p0", "-0x1p2000", "0x1p128", "0x1p1024", "0x1p127", "0x1p1023"} {
			hold(f, s)
		}
		for range 5000 {
			var s strings.Builder
			s.WriteString([]string{"", "+", "-"}[c.within(0, 2)] + "0x" + strconv.FormatUint(c.word()>>c.within(0, 63), 16) + ".")
			// Noughts and fs are what brings a number near to half way.
			s.WriteString(strings.Repeat("0", c.within(0, 20)) + strings.Repeat("f", c.within(0, 20)) + strconv.FormatUint(c.word()>>56, 16))
			s.WriteString("p" + strconv.Itoa(c.within(f.least-100, -f.least)))
			hold(f, s.String())
		}
	}
}
