package uints

import (
	"math"
	"math/big"
	"numeral/api"
	"numeral/fault"
	"regexp"
	"strings"
	"testing"
	"unsafe"
)

const digits = "0123456789abcdefghijklmnopqrstuvwxyz"

// free is the grammar of the base 0, each of its kinds word by word, with the underscores that may stand there.
var free = regexp.MustCompile(`^(0[xX](_?[0-9a-fA-F])+|0[bB](_?[01])+|0[oO](_?[0-7])+|0(_?[0-7])+|[1-9](_?[0-9])*|0)$`)

// inGrammar tells whether a text is in the grammar of a base.
func inGrammar(s string, base int) bool {
	if base == 0 {
		return free.MatchString(s)
	}
	return s != "" && strings.Trim(s, digits[:base]+strings.ToUpper(digits[:base])) == ""
}

// numberOf is the number of a text in the grammar, by the library's great numbers.
func numberOf(s string, base int) *big.Int {
	s = strings.ToLower(strings.ReplaceAll(s, "_", ""))
	if base == 0 {
		switch {
		case strings.HasPrefix(s, "0x"):
			base, s = 16, s[2:]
		case strings.HasPrefix(s, "0b"):
			base, s = 2, s[2:]
		case strings.HasPrefix(s, "0o"):
			base, s = 8, s[2:]
		case len(s) > 1 && s[0] == '0':
			base, s = 8, s[1:]
		default:
			base = 10
		}
	}
	n, ok := new(big.Int).SetString(s, base)
	if !ok {
		panic("no number: " + s)
	}
	return n
}

// check holds Parse and Prefix of a text in what is 0 or a base against what UI2 says, word by word.
func check(t *testing.T, s string, base int) {
	t.Helper()
	longest := 0
	for n := 1; n <= len(s); n++ {
		if inGrammar(s[:n], base) {
			longest = n
		}
	}
	var want uint64
	var number api.Errno
	if longest == 0 {
		number = api.ErrSyntax
	} else if n := numberOf(s[:longest], base); n.IsUint64() {
		want = n.Uint64()
	} else {
		want, number = math.MaxUint64, api.ErrRange
	}
	wantPrefix(t, s, base, want, longest, number)
	if longest == 0 || longest < len(s) {
		want, number = 0, api.ErrSyntax
	}
	wantParse(t, s, base, want, number)
}

func wantParse(t *testing.T, s string, base int, want uint64, number api.Errno) {
	t.Helper()
	v, err := Parse(s, base)
	if v != want || (err == nil) != (number == 0) {
		t.Errorf("Parse(%.40q, %d): %d, %v, want %d, %d", s, base, v, err, want, number)
	} else if number != 0 {
		wantFault(t, err, "Parse", s, number)
	}
}

func wantPrefix(t *testing.T, s string, base int, want uint64, length int, number api.Errno) {
	t.Helper()
	v, n, err := Prefix(s, base)
	if v != want || n != length || (err == nil) != (number == 0) {
		t.Errorf("Prefix(%.40q, %d): %d, %d, %v, want %d, %d, %d", s, base, v, n, err, want, length, number)
	} else if number != 0 {
		wantFault(t, err, "Prefix", s, number)
	}
}

func TestUI2Parse(t *testing.T) {
	for _, c := range []struct {
		s    string
		base int
		want uint64
	}{
		{"0x_FF", 0, 255}, {"0755", 0, 493}, {"0", 0, 0}, {"00", 0, 0}, {"000", 0, 0}, {"0_7", 0, 7}, {"0_0", 0, 0}, {"07", 0, 7}, {"010", 0, 8}, {"0_7_7", 0, 63},
		{"1", 0, 1}, {"10", 0, 10}, {"1_0", 0, 10}, {"1_234_567", 0, 1234567}, {"9_9", 0, 99},
		{"0xff", 0, 255}, {"0XfF", 0, 255}, {"0x0", 0, 0}, {"0x_0", 0, 0}, {"0Xf_F", 0, 255}, {"0x00ff", 0, 255}, {"0xb", 0, 11}, {"0x0b1", 0, 0xb1},
		{"0b101", 0, 5}, {"0B101", 0, 5}, {"0b_1_0", 0, 2}, {"0b0", 0, 0}, {"0B_0", 0, 0},
		{"0o17", 0, 15}, {"0O17", 0, 15}, {"0o_1_7", 0, 15}, {"0o0", 0, 0}, {"0O_0", 0, 0}, {"0o017", 0, 15},
		{"ff", 16, 255}, {"FF", 16, 255}, {"fF", 16, 255}, {"0", 2, 0}, {"0", 36, 0}, {"00", 10, 0}, {"0755", 10, 755}, {"08", 10, 8}, {"z", 36, 35}, {"Z", 36, 35}, {"zZ", 36, 35*36 + 35}, {"0b1", 16, 0xb1}, {"0x1", 36, 33*36 + 1}, {"0o", 36, 24}, {"y", 35, 34},
		{"18446744073709551615", 10, math.MaxUint64}, {"18446744073709551615", 0, math.MaxUint64}, {"18_446_744_073_709_551_615", 0, math.MaxUint64}, {"0xffffffffffffffff", 0, math.MaxUint64}, {"01777777777777777777777", 0, math.MaxUint64}, {"3w5e11264sgsf", 36, math.MaxUint64}, {"3W5E11264SGSF", 36, math.MaxUint64},
	} {
		wantParse(t, c.s, c.base, c.want, 0)
		wantPrefix(t, c.s, c.base, c.want, len(c.s), 0)
	}
}

func TestUI2ParseRefused(t *testing.T) {
	for _, c := range []struct {
		s    string
		base int
	}{
		{"", 0}, {"", 2}, {"", 10}, {"", 36},
		{"1__0", 0}, {"0_7", 10}, {"_", 0}, {"__", 0}, {"_1", 0}, {"1_", 0}, {"_0", 0}, {"0_", 0}, {"0__7", 0}, {"_0x1", 0}, {"0x", 0}, {"0X", 0}, {"0b", 0}, {"0B", 0}, {"0o", 0}, {"0O", 0}, {"0x_", 0}, {"0b_", 0}, {"0o_", 0}, {"0x__1", 0}, {"0x1_", 0}, {"0x1__1", 0}, {"0_x1", 0}, {"0_b1", 0}, {"0_o1", 0}, {"0x_g", 0},
		{"08", 0}, {"09", 0}, {"0_8", 0}, {"078", 0}, {"0a", 0}, {"0f", 0}, {"0b2", 0}, {"0B12", 0}, {"0o8", 0}, {"0O18", 0}, {"0xg", 0}, {"0X1G", 0}, {"00x1", 0}, {"00b1", 0}, {"x1", 0}, {"b1", 0}, {"a", 0}, {"1a", 0}, {"0x0x1", 0},
		{"_", 10}, {"1_0", 10}, {"_1", 10}, {"1_", 10}, {"1_0", 2}, {"1_0", 36}, {"_", 36}, {"1__0", 16}, {"0x_f", 16},
		{"+1", 0}, {"-1", 0}, {"+1", 10}, {"-1", 10}, {"-0", 10}, {"+0", 0}, {"1-", 10}, {"1+", 36}, {"0x+1", 0}, {"0x-1", 0}, {"0+7", 0}, {"--1", 10}, {"-", 10}, {"+", 0},
		{" ", 10}, {" 1", 10}, {"1 ", 10}, {"1 0", 10}, {" 1", 0}, {"1 ", 0}, {"\t1", 10}, {"1\n", 10}, {"1\n", 0}, {"0\n", 0}, {"0 ", 0}, {"1\r", 0}, {"0x 1", 0},
		{"\xff", 0}, {"1\xff", 0}, {"\xff1", 10}, {"1\x80", 36}, {"\xb1", 10}, {"\u0663", 10}, {"1\u0663", 0}, {"\uff11", 36}, {"\u00a01", 10}, {"1\x00", 10}, {"\x001", 0}, {"\x00", 36},
		{"1.5", 10}, {"1.", 0}, {"1e5", 10}, {"1e5", 0}, {"inf", 10}, {"NaN", 10}, {"1,000", 10}, {"1'0", 0}, {"0x1p3", 0},
		{"2", 2}, {"8", 8}, {"a", 10}, {"A", 10}, {"g", 16}, {"G", 16}, {"z", 35}, {"Z", 35}, {"12", 2}, {"1z", 35}, {"0x1", 16}, {"0xff", 10}, {"0o7", 8}, {"0b1", 2}, {"0b1", 10}, {"@", 36}, {"[", 36}, {"`", 36}, {"{", 36}, {"/", 36}, {":", 36},
	} {
		wantParse(t, c.s, c.base, 0, api.ErrSyntax)
	}
}

func TestUI2Prefix(t *testing.T) {
	for _, c := range []struct {
		s      string
		base   int
		want   uint64
		length int
	}{
		{"0xg", 0, 0, 1}, {"0x", 0, 0, 1}, {"0X", 0, 0, 1}, {"0b", 0, 0, 1}, {"0B", 0, 0, 1}, {"0o", 0, 0, 1}, {"0O", 0, 0, 1}, {"0x_", 0, 0, 1}, {"0x_g", 0, 0, 1}, {"0x__1", 0, 0, 1}, {"0b2", 0, 0, 1}, {"0b_2", 0, 0, 1}, {"0o8", 0, 0, 1}, {"0o_8", 0, 0, 1}, {"0X G", 0, 0, 1},
		{"08", 0, 0, 1}, {"09", 0, 0, 1}, {"0_", 0, 0, 1}, {"0_8", 0, 0, 1}, {"0__7", 0, 0, 1}, {"0_x1", 0, 0, 1}, {"0a", 0, 0, 1}, {"0 ", 0, 0, 1}, {"0.5", 0, 0, 1}, {"0\xff", 0, 0, 1}, {"0\x00", 0, 0, 1}, {"0\n", 0, 0, 1}, {"0-1", 0, 0, 1},
		{"0x1g", 0, 1, 3}, {"0xf_", 0, 15, 3}, {"0xf_g", 0, 15, 3}, {"0xf__f", 0, 15, 3}, {"0x_f_f_", 0, 255, 6}, {"0b12", 0, 1, 3}, {"0b1_2", 0, 1, 3}, {"0b_1_", 0, 1, 4}, {"0o78", 0, 7, 3}, {"0o7_8", 0, 7, 3}, {"0x1p3", 0, 1, 3},
		{"078", 0, 7, 2}, {"07_8", 0, 7, 2}, {"0_78", 0, 7, 3}, {"0_7_", 0, 7, 3}, {"00x1", 0, 0, 2}, {"00b", 0, 0, 2}, {"0_0x", 0, 0, 3}, {"0189", 0, 1, 2},
		{"1_", 0, 1, 1}, {"1__0", 0, 1, 1}, {"1_0_", 0, 10, 3}, {"1_0__0", 0, 10, 3}, {"1_a", 0, 1, 1}, {"12x34", 0, 12, 2}, {"1.5", 0, 1, 1}, {"1 2", 0, 1, 1}, {"9\xff", 0, 9, 1}, {"1+2", 0, 1, 1}, {"10x1", 0, 10, 2},
		{"12ax", 16, 0x12a, 3}, {"12AX", 16, 0x12a, 3}, {"12ax", 10, 12, 2}, {"12ax", 36, 1*36*36*36 + 2*36*36 + 10*36 + 33, 4}, {"1_0", 10, 1, 1}, {"0_7", 10, 0, 1}, {"0x1f", 16, 0, 1}, {"0b1", 2, 0, 1}, {"102", 2, 2, 2}, {"7 ", 8, 7, 1}, {"0009a", 10, 9, 4},
		{"18446744073709551615x", 10, math.MaxUint64, 20}, {"18446744073709551615_", 0, math.MaxUint64, 20}, {"18446744073709551615 6", 10, math.MaxUint64, 20},
	} {
		wantPrefix(t, c.s, c.base, c.want, c.length, 0)
		wantParse(t, c.s[:c.length], c.base, c.want, 0)
		if c.length < len(c.s) {
			wantParse(t, c.s, c.base, 0, api.ErrSyntax)
		}
	}
}

func TestUI2PrefixRefused(t *testing.T) {
	for _, base := range []int{0, 2, 8, 10, 16, 36} {
		for _, s := range []string{"", "_", "_1", "__1", "_0x1", "+1", "-1", "+", "-", " ", " 1", "\t0", "\n", "\xff", "\xff1", "\x80", "\x00", "\u0663", "\uff11", ".5", "/", ":", "@", "[", "`", "{"} {
			wantPrefix(t, s, base, 0, 0, api.ErrSyntax)
			wantParse(t, s, base, 0, api.ErrSyntax)
		}
	}
	for s, base := range map[string]int{"2": 2, "8": 8, "a1": 10, "A1": 10, "g": 16, "G0": 16, "z": 35, "x1": 0, "b1": 0, "f": 0, "o7": 0, "Z": 0} {
		wantPrefix(t, s, base, 0, 0, api.ErrSyntax)
		wantParse(t, s, base, 0, api.ErrSyntax)
	}
}

func TestUI2Range(t *testing.T) {
	for _, c := range []struct {
		s    string
		base int
	}{
		{"18446744073709551616", 10}, {"18446744073709551616", 0}, {"18446744073709551617", 10}, {"18446744073709551620", 10}, {"20000000000000000000", 10}, {"99999999999999999999", 10}, {"184467440737095516150", 10}, {"018446744073709551616", 10}, {"36893488147419103232", 10}, {"18_446_744_073_709_551_616", 0},
		{"10000000000000000", 16}, {"0x1_0000_0000_0000_0000", 0}, {"0x10000000000000000", 0}, {"0Xfffffffffffffffff", 0}, {"02000000000000000000000", 0}, {"0o2000000000000000000000", 0}, {"0b1" + strings.Repeat("0", 64), 0}, {"1" + strings.Repeat("0", 64), 2}, {strings.Repeat("1", 65), 2}, {"3w5e11264sgsg", 36}, {"3W5E11264SGSG", 36}, {"zzzzzzzzzzzzz", 36}, {"100000000000000000000", 36},
	} {
		wantParse(t, c.s, c.base, math.MaxUint64, api.ErrRange)
		wantPrefix(t, c.s, c.base, math.MaxUint64, len(c.s), api.ErrRange)
		for _, tail := range []string{"-", " ", "_", "__1", "\xff", "\u0663", "\n"} {
			wantParse(t, c.s+tail, c.base, 0, api.ErrSyntax)
			wantPrefix(t, c.s+tail, c.base, math.MaxUint64, len(c.s), api.ErrRange)
		}
	}
}

// About 2^64 in every base: that, one less, one more, and ten, a base and many bases above it.
func TestUI2RangeInEveryBase(t *testing.T) {
	top := new(big.Int).Lsh(big.NewInt(1), 64)
	for base := 2; base <= 36; base++ {
		for add := int64(-40); add <= 40; add++ {
			n := new(big.Int).Add(top, big.NewInt(add))
			check(t, n.Text(base), base)
			check(t, "000"+strings.ToUpper(n.Text(base)), base)
		}
		for times := int64(2); times <= 70; times++ {
			check(t, new(big.Int).Mul(top, big.NewInt(times)).Text(base), base)
			check(t, new(big.Int).Add(new(big.Int).Mul(top, big.NewInt(times)), big.NewInt(1)).Text(base), base)
		}
	}
}

func TestUI2Long(t *testing.T) {
	noughts, nines := strings.Repeat("0", 1<<16), strings.Repeat("9", 1<<16)
	for _, base := range []int{10, 16, 36} {
		wantParse(t, noughts, base, 0, 0)
		wantParse(t, noughts+"7", base, 7, 0)
		wantParse(t, nines, base, math.MaxUint64, api.ErrRange)
		wantParse(t, "1"+noughts, base, math.MaxUint64, api.ErrRange)
		wantParse(t, nines+"!", base, 0, api.ErrSyntax)
		wantParse(t, noughts+"_", base, 0, api.ErrSyntax)
		wantPrefix(t, nines+"!"+nines, base, math.MaxUint64, len(nines), api.ErrRange)
		wantPrefix(t, noughts+"7-", base, 7, len(noughts)+1, 0)
	}
	wantParse(t, noughts, 0, 0, 0)
	wantParse(t, noughts+"17", 0, 15, 0)
	wantParse(t, noughts+"8", 0, 0, api.ErrSyntax)
	wantPrefix(t, noughts+"8", 0, 0, len(noughts), 0)
	wantParse(t, nines, 0, math.MaxUint64, api.ErrRange)
	wantParse(t, "0x"+noughts+"ff", 0, 255, 0)
	under := strings.Repeat("_0", 1<<16)
	wantParse(t, "0"+under+"_7", 0, 7, 0)
	wantParse(t, "0b"+under+"_1", 0, 1, 0)
	wantParse(t, "1"+under, 0, math.MaxUint64, api.ErrRange)
	wantParse(t, "1"+under+"_", 0, 0, api.ErrSyntax)
	wantPrefix(t, "1"+under+"__0", 0, math.MaxUint64, 1+len(under), api.ErrRange)
	wantParse(t, strings.Repeat("_", 1<<16), 0, 0, api.ErrSyntax)
	wantPrefix(t, "0x"+strings.Repeat("_", 1<<16)+"1", 0, 0, 1, 0)
}

// eachText does something for every text of at most so many pieces.
func eachText(pieces []string, most int, do func(s string)) {
	var grow func(s string, left int)
	grow = func(s string, left int) {
		do(s)
		if left == 0 {
			return
		}
		for _, p := range pieces {
			grow(s+p, left-1)
		}
	}
	grow("", most)
}

func TestUI2EveryShortText(t *testing.T) {
	wide := []string{"0", "1", "7", "8", "9", "a", "b", "B", "f", "g", "o", "O", "x", "X", "z", "_", "+", "-", " ", "\n", "\x80", "\u0663"}
	eachText(wide, 3, func(s string) {
		for _, base := range []int{0, 2, 8, 10, 16, 35, 36} {
			check(t, s, base)
		}
	})
	eachText([]string{"0", "1", "8", "b", "x", "_"}, 6, func(s string) { check(t, s, 0) })
	eachText([]string{"0", "7", "O", "_"}, 7, func(s string) { check(t, s, 0) })
}

func TestUI2EveryByteAndBase(t *testing.T) {
	for base := 0; base <= 36; base++ {
		if base == 1 {
			continue
		}
		for i := range 256 {
			c := string([]byte{byte(i)})
			for _, s := range []string{c, "1" + c, c + "1", "1" + c + "1", "0" + c, "0" + c + "1", "0x" + c, "0x1" + c + "1"} {
				check(t, s, base)
			}
		}
	}
}

// The base is asked first: what the text is changes nothing.
func TestUI2NoBase(t *testing.T) {
	for _, base := range noBases {
		for _, s := range []string{"", "0", "1", "x", "_", "0x1", "0xg", "\xff", "99999999999999999999", "-1"} {
			wantParse(t, s, base, 0, api.ErrBase)
			wantPrefix(t, s, base, 0, 0, api.ErrBase)
		}
	}
}

func TestUI2FaultsTell(t *testing.T) {
	for want, err := range map[string]error{
		`Parse "1__0": error 3`:                       second(Parse("1__0", 0)),
		`Parse "\xff\"": error 3`:                     second(Parse("\xff\"", 10)),
		`Parse "18446744073709551616": error 4`:       second(Parse("18446744073709551616", 10)),
		`Parse "x": error 7`:                          second(Parse("x", 1)),
		`Prefix "-1": error 3`:                        third(Prefix("-1", 0)),
		`Prefix "99999999999999999999 and": error 4`:  third(Prefix("99999999999999999999 and", 10)),
		`Prefix "99999999999999999999 and": error 7`:  third(Prefix("99999999999999999999 and", -10)),
		`Format "": error 7`:                          second(Format(1, 0)),
		`Len "": error 7`:                             second(Len(1, 0)),
		`Pad "": error 1`:                             second(Pad(1, 10, -1)),
		`Group "": error 1`:                           second(Group(1, 10, 0)),
		`Parse "0_7": error 3`:                        second(Parse("0_7", 10)),
		`Parse "184467440737095516160_": error 3`:     second(Parse("184467440737095516160_", 0)),
		`Prefix "": error 3`:                          third(Prefix("", 10)),
		`Parse "": error 3`:                           second(Parse("", 0)),
		`Parse "0x1_0000_0000_0000_0000": error 4`:    second(Parse("0x1_0000_0000_0000_0000", 0)),
		`Prefix "0x1_0000_0000_0000_0000_": error 4`:  third(Prefix("0x1_0000_0000_0000_0000_", 0)),
		`Prefix "0x1_0000_0000_0000_0000__": error 7`: third(Prefix("0x1_0000_0000_0000_0000__", 37)),
	} {
		if err == nil || err.Error() != want {
			t.Errorf("%v, want %s", err, want)
		}
	}
}

func second[T any](_ T, err error) error      { return err }
func third[T, U any](_ T, _ U, e error) error { return e }

// A fault that is kept keeps nothing of the text that was given.
func TestUI2FaultSharesNothing(t *testing.T) {
	s := strings.Repeat("9", 30)
	for _, err := range []error{second(Parse(s, 10)), second(Parse(s, 1)), second(Parse(s+"_", 10)), third(Prefix(s, 10)), third(Prefix(s, 1)), third(Prefix(s, 37))} {
		f := err.(*fault.Fault)
		if unsafe.StringData(f.Text) == unsafe.StringData(s) {
			t.Errorf("%v shares the text's memory", err)
		}
	}
}

func TestUI3ThereAndBack(t *testing.T) {
	eachEdge(func(v uint64, base int) {
		text, err := Format(v, base)
		if err != nil {
			t.Fatal(err)
		}
		wantParse(t, text, base, v, 0)
		wantParse(t, strings.ToUpper(text), base, v, 0)
		wantParse(t, "0"+text, base, v, 0)
		padded, err := Pad(v, base, 80)
		if err != nil {
			t.Fatal(err)
		}
		wantParse(t, padded, base, v, 0)
		for p, of := range map[string]int{"": 10, "0": 8, "0o": 8, "0O_": 8, "0x": 16, "0X_": 16, "0b": 2, "0B_": 2} {
			grouped, err := Group(v, of, 3)
			if err != nil {
				t.Fatal(err)
			}
			wantParse(t, p+grouped, 0, v, 0)
		}
	})
	for base := 2; base <= 36; base++ {
		for v := uint64(0); v < 3000; v++ {
			text, err := Format(v, base)
			if err != nil {
				t.Fatal(err)
			}
			wantParse(t, text, base, v, 0)
		}
	}
}

// Every short text in the grammar without needless noughts and capitals is Format's of its number.
func TestUI3OnlyOneText(t *testing.T) {
	pieces := strings.Split("0 1 2 5 9 a f g A F z Z _ - +", " ")
	eachText(pieces, 3, func(s string) {
		for _, base := range []int{2, 3, 10, 16, 36} {
			v, err := Parse(s, base)
			if err != nil {
				continue
			}
			plain := strings.ToLower(s) == s && (s == "0" || s[0] != '0')
			if text, err := Format(v, base); err != nil || (text == s) != plain {
				t.Errorf("Format(Parse(%q, %d)): %q, %v", s, base, text, err)
			}
		}
	})
}
