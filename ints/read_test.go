package ints

import (
	"math"
	"math/big"
	"numeral/api"
	"numeral/fault"
	"regexp"
	"strings"
	"testing"
	"unsafe"
)

const letters = "0123456789abcdefghijklmnopqrstuvwxyz"

// free is the grammar of the base 0 behind a sign or none, each of its kinds word by word, with the underscores that may stand there.
var free = regexp.MustCompile(`^[+-]?(0[xX](_?[0-9a-fA-F])+|0[bB](_?[01])+|0[oO](_?[0-7])+|0(_?[0-7])+|[1-9](_?[0-9])*|0)$`)

// inGrammar tells whether a text is a sign or none and then what the grammar of a base takes.
func inGrammar(s string, base int) bool {
	if base == 0 {
		return free.MatchString(s)
	}
	if s != "" && (s[0] == '+' || s[0] == '-') {
		s = s[1:]
	}
	return s != "" && strings.Trim(s, letters[:base]+strings.ToUpper(letters[:base])) == ""
}

// numberOf is the number of a text in the grammar, by the library's great numbers.
func numberOf(s string, base int) *big.Int {
	neg := s[0] == '-'
	s = strings.ToLower(strings.ReplaceAll(strings.TrimLeft(s, "+-"), "_", ""))
	if base == 0 {
		switch {
		case strings.HasPrefix(s, "0x"):
			base, s = 16, s[2:]
		case strings.HasPrefix(s, "0b"):
			base, s = 2, s[2:]
		case strings.HasPrefix(s, "0o"):
			base, s = 8, s[2:]
		case len(s) > 1 && s[0] == '0':
			base, s = 8, s[1:]
		default:
			base = 10
		}
	}
	n, ok := new(big.Int).SetString(s, base)
	if !ok {
		panic("no number: " + s)
	}
	if neg {
		n.Neg(n)
	}
	return n
}

// check holds Parse and Prefix of a text in what is 0 or a base against what IT3 and IT4 say, word by word.
func check(t *testing.T, s string, base int) {
	t.Helper()
	longest := 0
	for n := 1; n <= len(s); n++ {
		if inGrammar(s[:n], base) {
			longest = n
		}
	}
	var want int64
	var number api.Errno
	if longest == 0 {
		number = api.ErrSyntax
	} else if n := numberOf(s[:longest], base); n.IsInt64() {
		want = n.Int64()
	} else if n.Sign() < 0 {
		want, number = math.MinInt64, api.ErrRange
	} else {
		want, number = math.MaxInt64, api.ErrRange
	}
	wantPrefix(t, s, base, want, longest, number)
	if longest == 0 || longest < len(s) {
		want, number = 0, api.ErrSyntax
	}
	wantParse(t, s, base, want, number)
}

func wantParse(t *testing.T, s string, base int, want int64, number api.Errno) {
	t.Helper()
	v, err := Parse(s, base)
	if v != want || (err == nil) != (number == 0) {
		t.Errorf("Parse(%.40q, %d): %d, %v, want %d, %d", s, base, v, err, want, number)
	} else if number != 0 {
		wantFault(t, err, "Parse", s, number)
	}
}

func wantPrefix(t *testing.T, s string, base int, want int64, length int, number api.Errno) {
	t.Helper()
	v, n, err := Prefix(s, base)
	if v != want || n != length || (err == nil) != (number == 0) {
		t.Errorf("Prefix(%.40q, %d): %d, %d, %v, want %d, %d, %d", s, base, v, n, err, want, length, number)
	} else if number != 0 {
		wantFault(t, err, "Prefix", s, number)
	}
}

func TestIT3Parse(t *testing.T) {
	for _, c := range []struct {
		s    string
		base int
		want int64
	}{
		{"-9223372036854775808", 10, math.MinInt64}, {"-0x10", 0, -16}, {"9223372036854775807", 10, math.MaxInt64}, {"+9223372036854775807", 10, math.MaxInt64}, {"-9223372036854775807", 10, math.MinInt64 + 1},
		{"-0", 10, 0}, {"+0", 10, 0}, {"0", 10, 0}, {"-0", 0, 0}, {"+0", 0, 0}, {"0", 0, 0}, {"-00", 0, 0}, {"+00", 0, 0}, {"-0x0", 0, 0}, {"-0b0", 0, 0}, {"-0o0", 0, 0}, {"-000", 36, 0}, {"-0", 2, 0},
		{"1", 10, 1}, {"-1", 10, -1}, {"+1", 10, 1}, {"-007", 10, -7}, {"+0755", 10, 755}, {"-0755", 0, -493}, {"+0755", 0, 493}, {"-1_000", 0, -1000}, {"+1_0", 0, 10},
		{"+0x10", 0, 16}, {"-0X1f", 0, -31}, {"-0x_FF", 0, -255}, {"+0X_f_F", 0, 255}, {"-0b101", 0, -5}, {"+0B101", 0, 5}, {"-0b_1_0", 0, -2}, {"+0B_1", 0, 1}, {"-0o17", 0, -15}, {"+0O17", 0, 15}, {"-0o_1_7", 0, -15}, {"-0_7", 0, -7}, {"+0_7_7", 0, 63}, {"-07", 0, -7},
		{"-ff", 16, -255}, {"-FF", 16, -255}, {"+fF", 16, 255}, {"-z", 36, -35}, {"-Z", 36, -35}, {"+zZ", 36, 35*36 + 35}, {"-0x1", 36, -(33*36 + 1)}, {"-0b1", 16, -0xb1}, {"-y", 35, -34},
		{"-9_223_372_036_854_775_808", 0, math.MinInt64}, {"9_223_372_036_854_775_807", 0, math.MaxInt64}, {"-0x8000000000000000", 0, math.MinInt64}, {"-0x8000_0000_0000_0000", 0, math.MinInt64}, {"0x7fffffffffffffff", 0, math.MaxInt64}, {"-01000000000000000000000", 0, math.MinInt64}, {"-1y2p0ij32e8e8", 36, math.MinInt64}, {"+1Y2P0IJ32E8E7", 36, math.MaxInt64}, {"-1" + strings.Repeat("0", 63), 2, math.MinInt64}, {strings.Repeat("1", 63), 2, math.MaxInt64}, {"-0009223372036854775808", 10, math.MinInt64},
	} {
		wantParse(t, c.s, c.base, c.want, 0)
		wantPrefix(t, c.s, c.base, c.want, len(c.s), 0)
	}
}

func TestIT3ParseRefused(t *testing.T) {
	texts := []string{
		"", "-", "+", "--", "++", "+-", "-+", "--1", "++1", "+-1", "-+1", "---1", "- 1", "-_", "+_", "_", "__", "_-1", "_+1", "-_1", "+_1", "-__1", "1-", "1+", "-1-", "-1+", "+1-1", "1-1", "-1_", "+1_", "1__0", "-1__0", "-0_", "+0__7",
		" ", " 1", " -1", "-1 ", "- ", "1 ", "\t-1", "-1\n", "-\n1", "+\t", "-1\r",
		"\xff", "-\xff", "-1\xff", "\xff-1", "+\x80", "\u2212" + "1", "-\u0663", "-\uff11", "-1\u0663", "\x00", "-\x00", "-1\x00", "\x00-1", "\xad1",
		"-1.5", "-.5", "-.", "-1,0", "-1'0", "(1)", "-!", "-/", "-:", "-@", "-[", "-`", "-{", "-/1", "1/", "-1@", "-1[", "-1`", "-1{", "\x2c1", "\x2a1",
	}
	for _, s := range texts {
		for _, base := range []int{0, 2, 8, 10, 16, 35, 36} {
			wantParse(t, s, base, 0, api.ErrSyntax)
		}
	}
	for _, c := range []struct {
		s    string
		base int
	}{
		{"-0x", 0}, {"+0X", 0}, {"-0b", 0}, {"+0B", 0}, {"-0o", 0}, {"+0O", 0}, {"-0x_", 0}, {"-0b_", 0}, {"-0o_", 0}, {"-0x__1", 0}, {"-0x1_", 0}, {"-0x1__1", 0}, {"-_0x1", 0}, {"-0_x1", 0}, {"+0xg", 0}, {"-0b2", 0}, {"-0o8", 0}, {"-08", 0}, {"+09", 0}, {"-0_8", 0}, {"-0a", 0}, {"-x1", 0}, {"-a", 0},
		{"0x-1", 0}, {"0x+1", 0}, {"0-7", 0}, {"-0x-1", 0}, {"0b-1", 0}, {"0o+7", 0}, {"-0-0", 0}, {"0X_-1", 0}, {"1_-1", 0},
		{"1_0", 10}, {"-1_0", 10}, {"+1_0", 2}, {"-1_0", 16}, {"-1_0", 36}, {"-0_7", 8}, {"0_7", 10}, {"-0x_f", 16},
		{"-2", 2}, {"+8", 8}, {"-a", 10}, {"-A", 10}, {"-g", 16}, {"-G", 16}, {"-z", 35}, {"-Z", 35}, {"-12", 2}, {"-0x1", 16}, {"-0xff", 10}, {"-0o7", 8}, {"-0b1", 2}, {"-inf", 10}, {"-1e5", 10}, {"-1e5", 0}, {"NaN", 10},
	} {
		wantParse(t, c.s, c.base, 0, api.ErrSyntax)
	}
}

func TestIT4Prefix(t *testing.T) {
	for _, c := range []struct {
		s      string
		base   int
		want   int64
		length int
	}{
		{"-12x", 10, -12, 3}, {"12x", 10, 12, 2}, {"+12x", 10, 12, 3}, {"-12-", 10, -12, 3}, {"-12-3", 10, -12, 3}, {"+12+3", 0, 12, 3}, {"1-2", 10, 1, 1}, {"-1 ", 10, -1, 2}, {"-1\xff", 10, -1, 2}, {"-1.5", 10, -1, 2},
		{"-0x", 0, 0, 2}, {"+0X", 0, 0, 2}, {"-0xg", 0, 0, 2}, {"-0x_", 0, 0, 2}, {"-0x__1", 0, 0, 2}, {"-0b", 0, 0, 2}, {"-0B2", 0, 0, 2}, {"-0o8", 0, 0, 2}, {"+0O", 0, 0, 2}, {"-08", 0, 0, 2}, {"-0_", 0, 0, 2}, {"-0_8", 0, 0, 2}, {"-0__7", 0, 0, 2}, {"-0-", 0, 0, 2}, {"-0 ", 10, 0, 2}, {"0x-1", 0, 0, 1}, {"+0x+1", 0, 0, 2},
		{"-0x1g", 0, -1, 4}, {"-0xf_", 0, -15, 4}, {"-0xf__f", 0, -15, 4}, {"+0x_f_f_", 0, 255, 7}, {"-0b12", 0, -1, 4}, {"-0o7_8", 0, -7, 4}, {"-078", 0, -7, 3}, {"-0_78", 0, -7, 4}, {"-00x1", 0, 0, 3}, {"-1_", 0, -1, 2}, {"-1__0", 0, -1, 2}, {"-1_0_", 0, -10, 4}, {"-1_a", 0, -1, 2},
		{"-12AX", 16, -0x12a, 4}, {"-1_0", 10, -1, 2}, {"-0x1f", 16, 0, 2}, {"-102", 2, -2, 3}, {"-7 ", 8, -7, 2}, {"-0009a", 10, -9, 5},
		{"-9223372036854775808x", 10, math.MinInt64, 20}, {"9223372036854775807x", 10, math.MaxInt64, 19}, {"+9223372036854775807_", 0, math.MaxInt64, 20}, {"-9223372036854775808 0", 10, math.MinInt64, 20}, {"-922337203685477580_88", 10, -922337203685477580, 19},
	} {
		wantPrefix(t, c.s, c.base, c.want, c.length, 0)
		wantParse(t, c.s[:c.length], c.base, c.want, 0)
		if c.length < len(c.s) {
			wantParse(t, c.s, c.base, 0, api.ErrSyntax)
		}
	}
}

func TestIT4PrefixRefused(t *testing.T) {
	for _, base := range []int{0, 2, 8, 10, 16, 36} {
		for _, s := range []string{"", "-", "+", "--", "--1", "++1", "+-1", "-+1", "-_", "-_1", "+_1", "_1", "_-1", "- 1", "+ 1", " -1", " 1", "\n-1", "-\xff", "\xff", "\xff1", "-\x80", "-\x00", "\x00-1", "\u2212" + "1", "-\u0663", "-.5", ".5", "-/", "-:", "-@", "-[", "-`", "-{", "-,1"} {
			wantPrefix(t, s, base, 0, 0, api.ErrSyntax)
			wantParse(t, s, base, 0, api.ErrSyntax)
		}
	}
	for s, base := range map[string]int{"-2": 2, "+8": 8, "-a1": 10, "+A1": 10, "-g": 16, "-G0": 16, "-z": 35, "-x1": 0, "+b1": 0, "-f": 0, "-o7": 0, "+Z": 0} {
		wantPrefix(t, s, base, 0, 0, api.ErrSyntax)
		wantParse(t, s, base, 0, api.ErrSyntax)
	}
}

func TestIT3Range(t *testing.T) {
	for _, c := range []struct {
		digits string
		base   int
	}{
		{"9223372036854775809", 10}, {"9223372036854775810", 10}, {"9223372036854775900", 10}, {"10000000000000000000", 10}, {"18446744073709551615", 10}, {"18446744073709551616", 10}, {"18446744073709551617", 10}, {"27670116110564327424", 10}, {"36893488147419103232", 10}, {"36893488147419103231", 10}, {"99999999999999999999", 10}, {"009223372036854775809", 10}, {"18446744073709551616", 0}, {"9_223_372_036_854_775_809", 0}, {"18_446_744_073_709_551_615", 0},
		{"8000000000000001", 16}, {"ffffffffffffffff", 16}, {"FFFFFFFFFFFFFFFF", 16}, {"10000000000000000", 16}, {"0x8000000000000001", 0}, {"0Xffff_ffff_ffff_ffff", 0}, {"0x1_0000_0000_0000_0000", 0}, {"0o1000000000000000000001", 0}, {"01000000000000000000001", 0}, {"0b1" + strings.Repeat("0", 62) + "1", 0}, {"1" + strings.Repeat("0", 64), 2}, {strings.Repeat("1", 64), 2}, {"1y2p0ij32e8e9", 36}, {"zzzzzzzzzzzzz", 36}, {"3w5e11264sgsg", 36},
	} {
		for _, sign := range []string{"", "+", "-"} {
			s, want := sign+c.digits, int64(math.MaxInt64)
			if sign == "-" {
				want = math.MinInt64
			}
			wantParse(t, s, c.base, want, api.ErrRange)
			wantPrefix(t, s, c.base, want, len(s), api.ErrRange)
			for _, tail := range []string{"-", "+1", " ", "_", "__1", "\xff", "\u0663", "\n"} {
				wantParse(t, s+tail, c.base, 0, api.ErrSyntax)
				wantPrefix(t, s+tail, c.base, want, len(s), api.ErrRange)
			}
			for _, ahead := range []string{"-", "+", "_", " ", "\xff"} {
				wantParse(t, ahead+"-"+c.digits, c.base, 0, api.ErrSyntax)
				wantPrefix(t, ahead+"-"+c.digits, c.base, 0, 0, api.ErrSyntax)
			}
		}
	}
	for base, s := range map[int]string{10: "9223372036854775808", 0: "9_223_372_036_854_775_808", 16: "8000000000000000", 2: "1" + strings.Repeat("0", 63), 36: "1Y2P0IJ32E8E8"} {
		for _, sign := range []string{"", "+"} {
			wantParse(t, sign+s, base, math.MaxInt64, api.ErrRange)
			wantPrefix(t, sign+s+" ", base, math.MaxInt64, len(sign+s), api.ErrRange)
		}
		wantParse(t, "-"+s, base, math.MinInt64, 0)
		wantPrefix(t, "-"+s+" ", base, math.MinInt64, len(s)+1, 0)
	}
}

// About 2^63, 2^64 and their multiples in every base, with both signs.
func TestIT3RangeInEveryBase(t *testing.T) {
	half := new(big.Int).Lsh(big.NewInt(1), 63)
	for base := 2; base <= 36; base++ {
		for times := int64(1); times <= 70; times++ {
			top := new(big.Int).Mul(half, big.NewInt(times))
			for _, add := range []int64{-40, -10, -2, -1, 0, 1, 2, 3, 10, 39} {
				n := new(big.Int).Add(top, big.NewInt(add))
				check(t, n.Text(base), base)
				check(t, "+"+n.Text(base), base)
				check(t, "-"+n.Text(base), base)
				check(t, "-000"+strings.ToUpper(n.Text(base)), base)
			}
		}
	}
}

func TestIT3Long(t *testing.T) {
	noughts, nines := strings.Repeat("0", 1<<16), strings.Repeat("9", 1<<16)
	for _, base := range []int{10, 16, 36} {
		wantParse(t, noughts, base, 0, 0)
		wantParse(t, "-"+noughts, base, 0, 0)
		wantParse(t, "-"+noughts+"7", base, -7, 0)
		wantParse(t, "+"+noughts+"7", base, 7, 0)
		wantParse(t, nines, base, math.MaxInt64, api.ErrRange)
		wantParse(t, "+"+nines, base, math.MaxInt64, api.ErrRange)
		wantParse(t, "-"+nines, base, math.MinInt64, api.ErrRange)
		wantParse(t, "-1"+noughts, base, math.MinInt64, api.ErrRange)
		wantParse(t, "-"+nines+"!", base, 0, api.ErrSyntax)
		wantParse(t, "-"+noughts+"_", base, 0, api.ErrSyntax)
		wantPrefix(t, "-"+nines+"!"+nines, base, math.MinInt64, len(nines)+1, api.ErrRange)
		wantPrefix(t, "-"+noughts+"7-", base, -7, len(noughts)+2, 0)
		wantParse(t, noughts+"-1", base, 0, api.ErrSyntax)
	}
	wantParse(t, "-"+noughts+"17", 0, -15, 0)
	wantParse(t, "-"+noughts+"8", 0, 0, api.ErrSyntax)
	wantPrefix(t, "-"+noughts+"8", 0, 0, len(noughts)+1, 0)
	wantParse(t, "-0x"+noughts+"ff", 0, -255, 0)
	under := strings.Repeat("_0", 1<<16)
	wantParse(t, "-0"+under+"_7", 0, -7, 0)
	wantParse(t, "-0b"+under+"_1", 0, -1, 0)
	wantParse(t, "-1"+under, 0, math.MinInt64, api.ErrRange)
	wantParse(t, "-1"+under+"_", 0, 0, api.ErrSyntax)
	wantPrefix(t, "+1"+under+"__0", 0, math.MaxInt64, 2+len(under), api.ErrRange)
	signs := strings.Repeat("-", 1<<16)
	wantParse(t, signs, 10, 0, api.ErrSyntax)
	wantParse(t, signs+"1", 0, 0, api.ErrSyntax)
	wantPrefix(t, signs+"1", 0, 0, 0, api.ErrSyntax)
}

// eachText does something for every text of at most so many pieces.
func eachText(pieces []string, most int, do func(s string)) {
	var grow func(s string, left int)
	grow = func(s string, left int) {
		do(s)
		if left == 0 {
			return
		}
		for _, p := range pieces {
			grow(s+p, left-1)
		}
	}
	grow("", most)
}

func TestIT3IT4EveryShortText(t *testing.T) {
	wide := []string{"0", "1", "7", "8", "9", "a", "b", "B", "f", "g", "o", "O", "x", "X", "z", "_", "+", "-", " ", "\n", "\x80", "\u0663"}
	eachText(wide, 3, func(s string) {
		for _, base := range []int{0, 2, 8, 10, 16, 35, 36} {
			check(t, s, base)
		}
	})
	eachText([]string{"0", "1", "8", "x", "_", "-"}, 6, func(s string) { check(t, s, 0) })
	eachText([]string{"0", "7", "O", "_", "+"}, 6, func(s string) { check(t, "-"+s, 0) })
}

func TestIT3IT4EveryByteAndBase(t *testing.T) {
	for base := 0; base <= 36; base++ {
		if base == 1 {
			continue
		}
		for i := range 256 {
			c := string([]byte{byte(i)})
			for _, s := range []string{c, "-" + c, "+" + c, c + "1", "-1" + c, c + "-1", "-" + c + "1", "-1" + c + "1", "-0" + c, "+0" + c + "1", "-0x" + c, "-0x1" + c + "1"} {
				check(t, s, base)
			}
		}
	}
}

// The base is asked first: what the text is changes nothing.
func TestIT3IT4NoBase(t *testing.T) {
	for _, base := range noBases {
		for _, s := range []string{"", "0", "-1", "+", "-", "x", "_", "-0x1", "-0xg", "\xff", "99999999999999999999", "-99999999999999999999", "--1"} {
			wantParse(t, s, base, 0, api.ErrBase)
			wantPrefix(t, s, base, 0, 0, api.ErrBase)
		}
	}
}

func TestIT2IT3IT4FaultsTell(t *testing.T) {
	for want, err := range map[string]error{
		`Parse "-1__0": error 3`:                       second(Parse("-1__0", 0)),
		`Parse "-\xff\"": error 3`:                     second(Parse("-\xff\"", 10)),
		`Parse "--1": error 3`:                         second(Parse("--1", 10)),
		`Parse "+": error 3`:                           second(Parse("+", 10)),
		`Parse "": error 3`:                            second(Parse("", 0)),
		`Parse "9223372036854775808": error 4`:         second(Parse("9223372036854775808", 10)),
		`Parse "-9223372036854775809": error 4`:        second(Parse("-9223372036854775809", 10)),
		`Parse "+18446744073709551616": error 4`:       second(Parse("+18446744073709551616", 10)),
		`Parse "-18446744073709551616_": error 3`:      second(Parse("-18446744073709551616_", 0)),
		`Parse "-x": error 7`:                          second(Parse("-x", 1)),
		`Prefix "-": error 3`:                          third(Prefix("-", 0)),
		`Prefix "": error 3`:                           third(Prefix("", 10)),
		`Prefix "-9223372036854775809 and": error 4`:   third(Prefix("-9223372036854775809 and", 10)),
		`Prefix "+99999999999999999999 and": error 4`:  third(Prefix("+99999999999999999999 and", 10)),
		`Prefix "-99999999999999999999 and": error 7`:  third(Prefix("-99999999999999999999 and", -10)),
		`Prefix "-0x1_0000_0000_0000_0000_": error 4`:  third(Prefix("-0x1_0000_0000_0000_0000_", 0)),
		`Prefix "-0x1_0000_0000_0000_0000__": error 7`: third(Prefix("-0x1_0000_0000_0000_0000__", 37)),
		`Format "": error 7`:                           second(Format(-1, 0)),
		`Len "": error 7`:                              second(Len(-1, 0)),
		`Pad "": error 1`:                              second(Pad(-1, 10, -1, true)),
		`Group "": error 1`:                            second(Group(-1, 10, 0)),
	} {
		if err == nil || err.Error() != want {
			t.Errorf("%v, want %s", err, want)
		}
	}
}

func second[T any](_ T, err error) error      { return err }
func third[T, U any](_ T, _ U, e error) error { return e }

// A fault that is kept keeps nothing of the text that was given.
func TestIT3IT4FaultSharesNothing(t *testing.T) {
	s := "-" + strings.Repeat("9", 30)
	for _, err := range []error{second(Parse(s, 10)), second(Parse(s, 1)), second(Parse(s+"_", 10)), third(Prefix(s, 10)), third(Prefix(s, 1)), third(Prefix(s, 37))} {
		f := err.(*fault.Fault)
		from, text := uintptr(unsafe.Pointer(unsafe.StringData(s))), uintptr(unsafe.Pointer(unsafe.StringData(f.Text)))
		if text >= from && text < from+uintptr(len(s)) {
			t.Errorf("%v shares the text's memory", err)
		}
	}
}

func TestIT5ThereAndBack(t *testing.T) {
	back := func(v int64, base int) {
		text, err := Format(v, base)
		if err != nil {
			t.Fatal(err)
		}
		wantParse(t, text, base, v, 0)
		wantParse(t, strings.ToUpper(text), base, v, 0)
		for _, plus := range []bool{false, true} {
			padded, err := Pad(v, base, 80, plus)
			if err != nil {
				t.Fatal(err)
			}
			wantParse(t, padded, base, v, 0)
		}
	}
	eachEdge(func(v int64, base int) {
		back(v, base)
		for _, each := range []int{1, 2, 3, 5, 19, math.MaxInt} {
			grouped, err := Group(v, 10, each)
			if err != nil {
				t.Fatal(err)
			}
			wantParse(t, grouped, 0, v, 0)
		}
	})
	for base := 2; base <= 36; base++ {
		for v := int64(-1500); v < 1500; v++ {
			back(v, base)
		}
	}
}

// Every short text that is read, without a plus, needless noughts and capitals, is Format's of its integer, but for a nought with a minus.
func TestIT5OnlyOneText(t *testing.T) {
	eachText(strings.Split("0 1 2 5 9 a f g A F z Z _ - +", " "), 4, func(s string) {
		for _, base := range []int{2, 3, 10, 16, 36} {
			v, err := Parse(s, base)
			if err != nil {
				continue
			}
			digits := strings.TrimPrefix(s, "-")
			plain := strings.ToLower(s) == s && s[0] != '+' && (digits == "0" || digits[0] != '0') && s != "-0"
			if text, err := Format(v, base); err != nil || (text == s) != plain {
				t.Errorf("Format(Parse(%q, %d)): %q, %v", s, base, text, err)
			}
		}
	})
}

// Of two integers with one sign, that of the greater magnitude has no shorter text.
func TestIT5GreaterIsNotShorter(t *testing.T) {
	for base := 2; base <= 36; base++ {
		all := edges(base)
		for _, a := range all {
			for _, b := range all {
				if (a < 0) != (b < 0) || Abs(a) >= Abs(b) {
					continue
				}
				short, err := Len(a, base)
				long, err2 := Len(b, base)
				if short > long || err != nil || err2 != nil {
					t.Errorf("base %d: %d has %d bytes, %d has %d", base, a, short, b, long)
				}
			}
		}
	}
}
