package scan

import (
	"math"
	"math/big"
	"strings"
	"testing"
	"unsafe"

	"numeral/api"
	"numeral/dec"
)

const maxPoint = api.MaxPoint

var (
	ones  = strings.Repeat("1", api.MaxDigits)
	zeros = strings.Repeat("0", api.MaxDigits)
)

// decOf is what SN2 says of two rows of digits, by the library's great numbers.
func decOf(whole, part string, exp *big.Int) api.Dec {
	digits := strings.TrimLeft(whole+part, "0")
	if digits == "" {
		return api.Dec{}
	}
	point := new(big.Int).Add(within(exp), big.NewInt(int64(len(digits)-len(part))))
	d := api.Dec{Digits: digits, Point: int(within(point).Int64())}
	if len(digits) > api.MaxDigits {
		d.Digits = digits[:api.MaxDigits]
		d.Cut = strings.ContainsAny(digits[api.MaxDigits:], "123456789")
	}
	if !d.Cut {
		d.Digits = strings.TrimRight(d.Digits, "0")
	}
	return d
}

func wantDec(t *testing.T, whole, part string, exp int, want api.Dec) {
	t.Helper()
	d := Dec(whole, part, exp)
	if d != want {
		t.Errorf("Dec(%.40q, %.40q, %d): %v, want %v (%d digits, want %d; cut %v, want %v)", whole, part, exp, d, want, len(d.Digits), len(want.Digits), d.Cut, want.Cut)
	}
	if dec.Valid(d) != nil {
		t.Errorf("Dec(%.40q, %.40q, %d): %v may not be", whole, part, exp, d)
	}
}

func TestSN2Dec(t *testing.T) {
	for _, c := range []struct {
		whole, part string
		exp         int
		digits      string
		point       int
	}{
		{"12", "50", 3, "125", 5}, {"1", "", 0, "1", 1}, {"", "1", 0, "1", 0}, {"1", "1", 0, "11", 1}, {"10", "", 0, "1", 2}, {"", "10", 0, "1", 0}, {"0012", "3400", 0, "1234", 2}, {"0", "05", 0, "5", -1}, {"000", "0005", 2, "5", -1}, {"", "0005", -2, "5", -5}, {"100", "001", 0, "100001", 3}, {"5", "000", 0, "5", 1}, {"50", "0", -7, "5", -5}, {"9", "", -1, "9", 0},
		{"", "", 0, "", 0}, {"0", "", 5, "", 0}, {"", "0", -5, "", 0}, {"000", "000", 7, "", 0}, {"", "", math.MaxInt, "", 0}, {"0", "0", math.MinInt, "", 0}, {zeros + zeros, zeros + zeros, 1, "", 0},
	} {
		wantDec(t, c.whole, c.part, c.exp, api.Dec{Digits: c.digits, Point: c.point})
	}
}

func TestSN2ManyDigits(t *testing.T) {
	row := func(digits string, point int, cut bool) api.Dec {
		return api.Dec{Digits: digits, Point: point, Cut: cut}
	}
	wantDec(t, ones, "", 0, row(ones, 800, false))
	wantDec(t, ones[1:], "", 0, row(ones[1:], 799, false))
	wantDec(t, ones+"1", "", 0, row(ones, 801, true))
	wantDec(t, ones+"0", "", 0, row(ones, 801, false))
	wantDec(t, ones+"01", "", 0, row(ones, 802, true))
	wantDec(t, ones, "0", 0, row(ones, 800, false))
	wantDec(t, ones, "1", 0, row(ones, 800, true))
	wantDec(t, ones, zeros+"1", 0, row(ones, 800, true))
	wantDec(t, ones, zeros+zeros, 0, row(ones, 800, false))
	wantDec(t, "", ones, 0, row(ones, 0, false))
	wantDec(t, "", ones+"1", 0, row(ones, 0, true))
	wantDec(t, "", zeros+ones, 0, row(ones, -800, false))
	wantDec(t, zeros, zeros+ones+"0001", 0, row(ones, -800, true))
	wantDec(t, zeros+"1", zeros[1:], 0, row("1", 1, false))
	wantDec(t, zeros+"1", zeros, 0, row("1", 1, false))
	wantDec(t, "1", zeros[2:]+"1", 0, row("1"+zeros[2:]+"1", 1, false))
	wantDec(t, "1", zeros[1:]+"1", 0, row("1"+zeros[1:], 1, true))
	wantDec(t, "1", zeros+"1", 0, row("1"+zeros[1:], 1, true))
	wantDec(t, "1"+zeros, "", 0, row("1", 801, false))
	wantDec(t, "1"+zeros, "01", 0, row("1"+zeros[1:], 801, true))
	wantDec(t, ones[1:]+"0", "", 0, row(ones[1:], 800, false))
	wantDec(t, ones[1:]+"0", "1", 0, row(ones[1:]+"0", 800, true))
	wantDec(t, "", strings.Repeat("0", 5)+strings.Repeat("1", 900), 0, row(ones, -5, true))
}

func TestSN2Bounds(t *testing.T) {
	for _, c := range []struct {
		whole, part string
		exp, point  int
	}{
		{"1", "", maxPoint - 2, maxPoint - 1}, {"1", "", maxPoint - 1, maxPoint}, {"1", "", maxPoint, maxPoint}, {"1", "", maxPoint + 1, maxPoint}, {"1", "", math.MaxInt, maxPoint}, {"1", "", math.MaxInt - 1, maxPoint},
		{"", "1", maxPoint - 1, maxPoint - 1}, {"", "1", maxPoint, maxPoint}, {"", "1", maxPoint + 1, maxPoint}, {"", "01", maxPoint, maxPoint - 1}, {"", "01", maxPoint + 1, maxPoint - 1}, {"", "0001", math.MaxInt, maxPoint - 3}, {"0", zeros + "1", math.MaxInt, maxPoint - 800},
		{"", "1", 1 - maxPoint, 1 - maxPoint}, {"", "1", -maxPoint, -maxPoint}, {"", "1", -maxPoint - 1, -maxPoint}, {"", "1", math.MinInt, -maxPoint}, {"", "01", 1 - maxPoint, -maxPoint}, {"", "01", 2 - maxPoint, 1 - maxPoint}, {"", "001", 1 - maxPoint, -maxPoint}, {"", zeros + "1", math.MinInt, -maxPoint}, {"", zeros + "1", 799 - maxPoint, -maxPoint}, {"", zeros + "1", 801 - maxPoint, 1 - maxPoint},
		{"1", "", -maxPoint, 1 - maxPoint}, {"1", "", -maxPoint - 1, 1 - maxPoint}, {"1", "", math.MinInt, 1 - maxPoint}, {"1", "", math.MinInt + 1, 1 - maxPoint}, {"1" + zeros, "", math.MinInt, 801 - maxPoint}, {"1" + zeros, "", maxPoint - 800, maxPoint}, {"1" + zeros, "", maxPoint - 802, maxPoint - 1}, {"1" + zeros, "", -801, 0}, {"", zeros + "1", 801, 1},
	} {
		wantDec(t, c.whole, c.part, c.exp, api.Dec{Digits: "1", Point: c.point})
		wantDec(t, "000"+c.whole, c.part+"000", c.exp, api.Dec{Digits: "1", Point: c.point})
	}
}

func TestSN2ExponentsOfTexts(t *testing.T) {
	many := strings.Repeat("0", 1<<16)
	for s, point := range map[string]int{
		"1e1099511627774": maxPoint - 1, "1e1099511627775": maxPoint, "1e1099511627776": maxPoint, "1e1099511627777": maxPoint, "1e+" + strings.Repeat("9", 300): maxPoint, "1e00001099511627774": maxPoint - 1, "1e9223372036854775807": maxPoint, "1e9223372036854775808": maxPoint, "1e18446744073709551617": maxPoint,
		".1e1099511627775": maxPoint - 1, ".1e1099511627776": maxPoint, ".1e1099511627777": maxPoint, ".01e1099511627777": maxPoint - 1, ".01e" + strings.Repeat("9", 300): maxPoint - 1,
		"1e-1099511627775": 2 - maxPoint, "1e-1099511627776": 1 - maxPoint, "1e-1099511627777": 1 - maxPoint, "1e-" + strings.Repeat("9", 300): 1 - maxPoint, "1e-18446744073709551617": 1 - maxPoint, "1e-9223372036854775808": 1 - maxPoint, ".1e-1099511627776": -maxPoint, ".1e-1099511627775": 1 - maxPoint, ".01e-1099511627775": -maxPoint, ".01e-1099511627776": -maxPoint,
		"1" + many + "e-65537": 0, "1" + many + "e-65536": 1, "." + many + "1e65536": 0, "0." + many + "1e65537": 1, "1" + many + "e1099511627776": maxPoint, "." + many + "1e-1099511627776": -maxPoint, "1" + many + "e-1099511627776": 65537 - maxPoint, "." + many + "1e1099511627776": maxPoint - 65536,
	} {
		wantScan(t, s, decimal(false, "1", point))
	}
}

// What is no digit counts as a nought, in both rows.
func TestSN2OtherBytes(t *testing.T) {
	for c := range 256 {
		b := byte(c)
		as := "0"
		if '0' <= b && b <= '9' {
			as = string(rune(b))
		}
		s := string([]byte{b})
		for _, exp := range []int{0, 7, math.MinInt, math.MaxInt} {
			for _, at := range []string{"_", "1_", "_1", "1_1", "__", "_" + ones, ones + "_", zeros + "_"} {
				row, plain := strings.ReplaceAll(at, "_", s), strings.ReplaceAll(at, "_", as)
				wantDec(t, row, "", exp, decOf(plain, "", big.NewInt(int64(exp))))
				wantDec(t, "", row, exp, decOf("", plain, big.NewInt(int64(exp))))
				wantDec(t, row, row, exp, decOf(plain, plain, big.NewInt(int64(exp))))
			}
		}
	}
	wantDec(t, "a1b", "c2d", 0, api.Dec{Digits: "1002", Point: 2})
	wantDec(t, "-1", ".5", 0, api.Dec{Digits: "105", Point: 1})
	wantDec(t, "∞", "é", 3, api.Dec{})
	wantDec(t, "é1", "1é", 0, api.Dec{Digits: "11", Point: 1})
	wantDec(t, "1é", "é1", 0, api.Dec{Digits: "100001", Point: 3})
}

func TestSN2EveryPairOfShortRows(t *testing.T) {
	eachText("059x", 4, func(whole string) {
		eachText("0a1", 4, func(part string) {
			plain := strings.NewReplacer("x", "0", "a", "0")
			for _, exp := range []int{0, -3, maxPoint - 1, -maxPoint + 1, maxPoint + 2, -maxPoint - 2} {
				wantDec(t, whole, part, exp, decOf(plain.Replace(whole), plain.Replace(part), big.NewInt(int64(exp))))
			}
		})
	})
}

// Rows about as long as a number keeps digits, with their few digits that are not 0 at all places of weight.
func TestSN2RowsAboutTheMost(t *testing.T) {
	for _, n := range []int{1, 2, 798, 799, 800, 801, 802, 1600} {
		for _, at := range []int{0, 1, 2, 797, 798, 799, 800, 801, 1599} {
			for _, split := range []int{0, 1, 799, 800, 801, 1600} {
				row := []byte(strings.Repeat("0", n))
				row[0] = '3'
				if at < n {
					row[at] = '7'
				}
				for _, ahead := range []string{"", "00", zeros + "0"} {
					digits := ahead + string(row)
					whole, part := digits[:min(split, len(digits))], digits[min(split, len(digits)):]
					wantDec(t, whole, part, 5, decOf(whole, part, big.NewInt(5)))
					wantScan(t, "0"+whole+"."+part+"e5", api.Parts{Kind: api.TextDec, Dec: decOf(whole, part, big.NewInt(5))})
				}
			}
		}
	}
}

func TestSN4NoughtsOfRows(t *testing.T) {
	for _, whole := range []string{"", "0", "7", "70", ones, ones + "1", zeros} {
		for _, part := range []string{"", "0", "07", "7", ones, zeros + "1"} {
			for _, exp := range []int{0, -800, maxPoint, -maxPoint, math.MaxInt, math.MinInt} {
				want := Dec(whole, part, exp)
				for _, noughts := range []string{"0", "00", zeros} {
					wantDec(t, noughts+whole, part, exp, want)
					wantDec(t, whole, part+noughts, exp, want)
					wantDec(t, noughts+whole, part+noughts, exp, want)
				}
			}
		}
	}
}

// Hexadecimals of so many digits, with the point at every place among them and a digit that is not 0 at each.
func TestSN1HexadecimalsAboutAWord(t *testing.T) {
	for _, n := range []int{1, 2, 15, 16, 17, 18, 33} {
		for at := range n {
			for split := range n + 1 {
				row := []byte(strings.Repeat("0", n))
				row[0], row[at] = '9', 'e'
				for _, ahead := range []string{"", "000", strings.Repeat("0", 20)} {
					digits := ahead + string(row)
					for _, point := range []int{split, len(digits) - split} {
						whole, part := digits[:point], digits[point:]
						for _, exp := range []string{"0", "-3", "1099511627770", "-1099511627770"} {
							s := "0x" + whole + "." + part + "p" + exp
							wantScan(t, s, hexOf(whole, part, number(exp, 10)))
						}
					}
				}
			}
		}
	}
}

// shares says whether two texts lie in the same memory.
func shares(a, b string) bool {
	x, y := uintptr(unsafe.Pointer(unsafe.StringData(a))), uintptr(unsafe.Pointer(unsafe.StringData(b)))
	return x < y+uintptr(len(b)) && y < x+uintptr(len(a))
}

// An answer neither shares memory with a text that was given nor with another answer.
func TestNewMemory(t *testing.T) {
	text := strings.Clone("12345678")
	for name, call := range map[string]func() api.Dec{
		"Dec of whole": func() api.Dec { return Dec(text, "", 0) },
		"Dec of part":  func() api.Dec { return Dec("", text, 0) },
		"Scan":         func() api.Dec { p, _ := Scan(text); return p.Dec },
		"Prefix":       func() api.Dec { p, _, _ := Prefix(text); return p.Dec },
	} {
		d, again := call(), call()
		if d != again || d.Digits != text {
			t.Errorf("%s: %v, then %v", name, d, again)
		}
		if shares(d.Digits, text) || shares(d.Digits, again.Digits) {
			t.Errorf("%s answers memory that is not new", name)
		}
	}
}
