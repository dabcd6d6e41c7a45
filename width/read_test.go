package width

import (
	"math"
	"math/big"
	"numeral/api"
	"numeral/fault"
	"regexp"
	"strings"
	"testing"
	"unsafe"
)

const letters = "0123456789abcdefghijklmnopqrstuvwxyz"

// free is the grammar of the base 0 without a sign, each of its kinds word by word, with the underscores that may stand there.
var free = regexp.MustCompile(`^(0[xX](_?[0-9a-fA-F])+|0[bB](_?[01])+|0[oO](_?[0-7])+|0(_?[0-7])+|[1-9](_?[0-9])*|0)$`)

// inGrammar tells whether a text without a sign is in the grammar of a base.
func inGrammar(s string, base int) bool {
	if base == 0 {
		return free.MatchString(s)
	}
	return s != "" && strings.Trim(s, letters[:base]+strings.ToUpper(letters[:base])) == ""
}

// numberOf is the number of a text in the grammar, by the library's great numbers.
func numberOf(s string, base int) *big.Int {
	s = strings.ToLower(strings.ReplaceAll(s, "_", ""))
	if base == 0 {
		switch {
		case strings.HasPrefix(s, "0x"):
			base, s = 16, s[2:]
		case strings.HasPrefix(s, "0b"):
			base, s = 2, s[2:]
		case strings.HasPrefix(s, "0o"):
			base, s = 8, s[2:]
		case len(s) > 1 && s[0] == '0':
			base, s = 8, s[1:]
		default:
			base = 10
		}
	}
	n, ok := new(big.Int).SetString(s, base)
	if !ok {
		panic("no number: " + s)
	}
	return n
}

// check holds Unsigned and Signed of a text in what is 0 or a base against what WD2 says, word by word, in every width.
func check(t *testing.T, s string, base int) {
	t.Helper()
	var plain, signed *big.Int
	if inGrammar(s, base) {
		plain = numberOf(s, base)
		signed = plain
	} else if s != "" && (s[0] == '+' || s[0] == '-') && inGrammar(s[1:], base) {
		signed = numberOf(s[1:], base)
		if s[0] == '-' {
			signed.Neg(signed)
		}
	}
	for _, w := range widths {
		least, greatest, most := boundsOf(w)
		v, number := within(plain, new(big.Int), most)
		wantUnsigned(t, s, base, w, v.Uint64(), number)
		v, number = within(signed, least, greatest)
		wantSigned(t, s, base, w, v.Int64(), number)
	}
}

// within is a number between two bounds, or the bound next to it, with ErrRange; 0 with ErrSyntax of none.
func within(n, least, greatest *big.Int) (*big.Int, api.Errno) {
	switch {
	case n == nil:
		return new(big.Int), api.ErrSyntax
	case n.Cmp(least) < 0:
		return least, api.ErrRange
	case n.Cmp(greatest) > 0:
		return greatest, api.ErrRange
	}
	return n, 0
}

func wantUnsigned(t *testing.T, s string, base, width int, want uint64, number api.Errno) {
	t.Helper()
	v, err := Unsigned(s, base, width)
	if v != want {
		t.Errorf("Unsigned(%.40q, %d, %d): %d, want %d", s, base, width, v, want)
	}
	wantError(t, err, "Unsigned", s, number)
}

func wantSigned(t *testing.T, s string, base, width int, want int64, number api.Errno) {
	t.Helper()
	v, err := Signed(s, base, width)
	if v != want {
		t.Errorf("Signed(%.40q, %d, %d): %d, want %d", s, base, width, v, want)
	}
	wantError(t, err, "Signed", s, number)
}

func TestWD2Unsigned(t *testing.T) {
	for _, c := range []struct {
		s           string
		base, width int
		want        uint64
		number      api.Errno
	}{
		{"0", 10, 8, 0, 0}, {"1", 10, 8, 1, 0}, {"200", 10, 8, 200, 0}, {"127", 10, 8, 127, 0}, {"128", 10, 8, 128, 0}, {"255", 10, 8, 255, 0}, {"256", 10, 8, 255, api.ErrRange}, {"257", 10, 8, 255, api.ErrRange}, {"511", 10, 8, 255, api.ErrRange}, {"65536", 10, 8, 255, api.ErrRange}, {"65535", 10, 16, 65535, 0}, {"65536", 10, 16, 65535, api.ErrRange}, {"4294967295", 10, 32, math.MaxUint32, 0}, {"4294967296", 10, 32, math.MaxUint32, api.ErrRange},
		{"9223372036854775807", 10, 64, math.MaxInt64, 0}, {"9223372036854775808", 10, 64, 1 << 63, 0}, {"18446744073709551615", 10, 64, math.MaxUint64, 0}, {"18446744073709551616", 10, 64, math.MaxUint64, api.ErrRange}, {"18446744073709551617", 10, 64, math.MaxUint64, api.ErrRange}, {"18446744073709551616", 10, 8, 255, api.ErrRange}, {"18446744073709551615", 10, 32, math.MaxUint32, api.ErrRange}, {"18446744073709551617", 10, 16, 65535, api.ErrRange},
		{"ff", 16, 8, 255, 0}, {"FF", 16, 8, 255, 0}, {"100", 16, 8, 255, api.ErrRange}, {"11111111", 2, 8, 255, 0}, {"100000000", 2, 8, 255, api.ErrRange}, {"73", 36, 8, 255, 0}, {"74", 36, 8, 255, api.ErrRange}, {"0000000255", 10, 8, 255, 0}, {"0000000256", 10, 8, 255, api.ErrRange},
		{"0xff", 0, 8, 255, 0}, {"0x_f_f", 0, 8, 255, 0}, {"0x100", 0, 8, 255, api.ErrRange}, {"0b1111_1111", 0, 8, 255, 0}, {"0b1_0000_0000", 0, 8, 255, api.ErrRange}, {"0o377", 0, 8, 255, 0}, {"0377", 0, 8, 255, 0}, {"0o4_00", 0, 8, 255, api.ErrRange}, {"0400", 0, 8, 255, api.ErrRange}, {"2_5_5", 0, 8, 255, 0}, {"25_6", 0, 8, 255, api.ErrRange}, {"0Xffff_ffff_ffff_ffff", 0, 64, math.MaxUint64, 0}, {"0X1_0000_0000_0000_0000", 0, 64, math.MaxUint64, api.ErrRange},
		{"", 10, 8, 0, api.ErrSyntax}, {"-0", 10, 8, 0, api.ErrSyntax}, {"+0", 10, 8, 0, api.ErrSyntax}, {"-1", 10, 8, 0, api.ErrSyntax}, {"+1", 10, 64, 0, api.ErrSyntax}, {"+255", 10, 8, 0, api.ErrSyntax}, {"-256", 10, 8, 0, api.ErrSyntax}, {"+256", 10, 8, 0, api.ErrSyntax}, {"-", 10, 8, 0, api.ErrSyntax}, {"--1", 10, 8, 0, api.ErrSyntax}, {"256x", 10, 8, 0, api.ErrSyntax}, {"2_5_5", 10, 8, 0, api.ErrSyntax}, {"256_", 0, 8, 0, api.ErrSyntax}, {"0x", 0, 8, 0, api.ErrSyntax}, {"-0x1", 0, 8, 0, api.ErrSyntax}, {" 1", 10, 16, 0, api.ErrSyntax}, {"1\n", 10, 32, 0, api.ErrSyntax}, {"1.5", 10, 64, 0, api.ErrSyntax}, {"18446744073709551616!", 10, 64, 0, api.ErrSyntax},
	} {
		wantUnsigned(t, c.s, c.base, c.width, c.want, c.number)
	}
}

func TestWD2Signed(t *testing.T) {
	for _, c := range []struct {
		s           string
		base, width int
		want        int64
		number      api.Errno
	}{
		{"-129", 10, 8, -128, api.ErrRange}, {"-128", 10, 8, -128, 0}, {"-127", 10, 8, -127, 0}, {"127", 10, 8, 127, 0}, {"+127", 10, 8, 127, 0}, {"128", 10, 8, 127, api.ErrRange}, {"+128", 10, 8, 127, api.ErrRange}, {"255", 10, 8, 127, api.ErrRange}, {"256", 10, 8, 127, api.ErrRange}, {"-256", 10, 8, -128, api.ErrRange}, {"-255", 10, 8, -128, api.ErrRange}, {"0", 10, 8, 0, 0}, {"-0", 10, 8, 0, 0}, {"+0", 10, 8, 0, 0}, {"-1", 10, 8, -1, 0}, {"-0", 0, 16, 0, 0}, {"+0", 0, 32, 0, 0},
		{"32767", 10, 16, 32767, 0}, {"32768", 10, 16, 32767, api.ErrRange}, {"-32768", 10, 16, -32768, 0}, {"-32769", 10, 16, -32768, api.ErrRange}, {"65535", 10, 16, 32767, api.ErrRange}, {"2147483647", 10, 32, math.MaxInt32, 0}, {"2147483648", 10, 32, math.MaxInt32, api.ErrRange}, {"-2147483648", 10, 32, math.MinInt32, 0}, {"-2147483649", 10, 32, math.MinInt32, api.ErrRange}, {"4294967295", 10, 32, math.MaxInt32, api.ErrRange},
		{"9223372036854775807", 10, 64, math.MaxInt64, 0}, {"9223372036854775808", 10, 64, math.MaxInt64, api.ErrRange}, {"-9223372036854775808", 10, 64, math.MinInt64, 0}, {"-9223372036854775809", 10, 64, math.MinInt64, api.ErrRange}, {"18446744073709551615", 10, 64, math.MaxInt64, api.ErrRange}, {"-18446744073709551615", 10, 64, math.MinInt64, api.ErrRange}, {"18446744073709551616", 10, 64, math.MaxInt64, api.ErrRange}, {"-18446744073709551616", 10, 64, math.MinInt64, api.ErrRange}, {"9223372036854775808", 10, 8, 127, api.ErrRange}, {"-9223372036854775809", 10, 16, -32768, api.ErrRange}, {"18446744073709551615", 10, 32, math.MaxInt32, api.ErrRange}, {"-18446744073709551616", 10, 8, -128, api.ErrRange},
		{"-80", 16, 8, -128, 0}, {"-81", 16, 8, -128, api.ErrRange}, {"7F", 16, 8, 127, 0}, {"80", 16, 8, 127, api.ErrRange}, {"ff", 16, 8, 127, api.ErrRange}, {"-10000000", 2, 8, -128, 0}, {"-10000001", 2, 8, -128, api.ErrRange}, {"-0000128", 10, 8, -128, 0}, {"+0000128", 10, 8, 127, api.ErrRange}, {"-3k", 36, 8, -128, 0}, {"-3L", 36, 8, -128, api.ErrRange},
		{"-0x80", 0, 8, -128, 0}, {"-0x_8_0", 0, 8, -128, 0}, {"-0x81", 0, 8, -128, api.ErrRange}, {"+0x7f", 0, 8, 127, 0}, {"0X_8_0", 0, 8, 127, api.ErrRange}, {"-0b1000_0000", 0, 8, -128, 0}, {"-0b1000_0001", 0, 8, -128, api.ErrRange}, {"-0200", 0, 8, -128, 0}, {"-0o201", 0, 8, -128, api.ErrRange}, {"-1_2_8", 0, 8, -128, 0}, {"-12_9", 0, 8, -128, api.ErrRange}, {"-0x8000_0000_0000_0000", 0, 64, math.MinInt64, 0}, {"-0x8000_0000_0000_0001", 0, 64, math.MinInt64, api.ErrRange},
		{"", 10, 8, 0, api.ErrSyntax}, {"-", 10, 8, 0, api.ErrSyntax}, {"+", 0, 16, 0, api.ErrSyntax}, {"--1", 10, 8, 0, api.ErrSyntax}, {"+-129", 10, 8, 0, api.ErrSyntax}, {"-+1", 0, 32, 0, api.ErrSyntax}, {"++1", 10, 64, 0, api.ErrSyntax}, {"-129x", 10, 8, 0, api.ErrSyntax}, {"-1_0", 10, 8, 0, api.ErrSyntax}, {"-129_", 0, 8, 0, api.ErrSyntax}, {"-0x", 0, 8, 0, api.ErrSyntax}, {"0x-1", 0, 8, 0, api.ErrSyntax}, {"- 1", 10, 8, 0, api.ErrSyntax}, {"-9223372036854775809!", 10, 64, 0, api.ErrSyntax}, {"\u2212" + "1", 10, 8, 0, api.ErrSyntax},
	} {
		wantSigned(t, c.s, c.base, c.width, c.want, c.number)
	}
}

// forms are the texts of a number's digits with and without signs and noughts ahead, some of which are none.
func forms(digits string) []string {
	var all []string
	for _, sign := range []string{"", "+", "-", "--", "+-"} {
		for _, ahead := range []string{"", "0", "000", strings.Repeat("0", 70)} {
			all = append(all, sign+ahead+digits)
		}
	}
	return append(all, strings.ToUpper(digits), "-"+strings.ToUpper(digits), digits+" ", digits+"_", "-"+digits+"-", "_"+digits, digits+"\x00")
}

// Every edge of every width, in every base.
func TestWD2Edges(t *testing.T) {
	for _, n := range edges() {
		if n.Sign() < 0 {
			continue
		}
		for base := 2; base <= 36; base++ {
			digits := n.Text(base)
			check(t, digits, base)
			check(t, "+"+digits, base)
			check(t, "-"+digits, base)
		}
	}
	for _, w := range widths {
		for _, n := range []int{w - 1, w} {
			for more := int64(-1); more <= 1; more++ {
				for _, base := range []int{2, 3, 8, 10, 16, 35, 36} {
					for _, s := range forms(power(n, more).Text(base)) {
						check(t, s, base)
					}
				}
			}
		}
	}
}

// under is digits with an underscore between each two of them.
func under(digits string) string { return strings.Join(strings.Split(digits, ""), "_") }

// The same edges with prefixes and underscores: read in base 0, and in others, where most of them are none.
func TestWD2Prefixes(t *testing.T) {
	for _, w := range widths {
		for _, n := range []int{w - 1, w} {
			for more := int64(-1); more <= 1; more++ {
				for ahead, of := range map[string]int{"": 10, "0": 8, "0o": 8, "0O": 8, "0x": 16, "0X": 16, "0b": 2, "0B": 2} {
					digits := power(n, more).Text(of)
					for _, sign := range []string{"", "+", "-"} {
						for _, s := range []string{digits, "0" + digits, under(digits), "_" + digits, "_" + under(digits), under(digits) + "_", "__" + digits} {
							for _, base := range []int{0, 2, 8, 10, 16, 36} {
								check(t, sign+ahead+s, base)
							}
						}
					}
				}
			}
		}
	}
}

func TestWD2Long(t *testing.T) {
	noughts, nines := strings.Repeat("0", 1<<14), strings.Repeat("9", 1<<14)
	for _, sign := range []string{"", "+", "-"} {
		for _, digits := range []string{noughts, nines, noughts + nines, nines + noughts, noughts + "127", noughts + "128", noughts + "129", noughts + "255", noughts + "256", "1" + noughts, nines + "!", noughts + "_", nines + "-"} {
			for _, base := range []int{10, 16, 36} {
				check(t, sign+digits, base)
			}
		}
		check(t, sign+under("1"+noughts), 0)
		check(t, sign+under(nines), 0)
		check(t, sign+"0x"+noughts+"ff", 0)
		check(t, sign+"0x_"+under(nines), 0)
		check(t, sign+noughts+"177", 0)
		check(t, sign+noughts+"8", 0)
	}
}

// eachText does something for every text of at most so many pieces.
func eachText(pieces []string, most int, do func(s string)) {
	var grow func(s string, left int)
	grow = func(s string, left int) {
		do(s)
		if left == 0 {
			return
		}
		for _, p := range pieces {
			grow(s+p, left-1)
		}
	}
	grow("", most)
}

func TestWD2EveryShortText(t *testing.T) {
	pieces := strings.Split("0 1 2 7 8 9 a f B x O z _ - +", " ")
	eachText(append(pieces, " ", "\x80"), 3, func(s string) {
		for _, base := range []int{0, 2, 8, 10, 16, 36} {
			check(t, s, base)
		}
	})
	eachText([]string{"0", "1", "9", "x", "_", "-"}, 5, func(s string) { check(t, s, 0) })
}

func TestWD2EveryByte(t *testing.T) {
	for i := range 256 {
		c := string([]byte{byte(i)})
		for _, base := range []int{0, 2, 10, 11, 16, 35, 36} {
			for _, s := range []string{c, "-" + c, c + "1", "1" + c, "-1" + c, "1" + c + "1", "0" + c + "1", "-99" + c + "9"} {
				check(t, s, base)
			}
		}
	}
}

// The base is asked ahead of the text, and the text ahead of its range.
func TestWD2NoBase(t *testing.T) {
	for _, w := range widths {
		for _, base := range noBases {
			for _, s := range []string{"", "0", "1", "-1", "+", "-", "--1", "x", "_", "0x1", "0xg", "\xff", "256", "-129", "99999999999999999999", "-99999999999999999999", "99999999999999999999x"} {
				wantUnsigned(t, s, base, w, 0, api.ErrBase)
				wantSigned(t, s, base, w, 0, api.ErrBase)
			}
		}
	}
}

func TestWD2WD3FaultsTell(t *testing.T) {
	for want, err := range map[string]error{
		`Valid "": error 6`:                           Valid(7),
		`Unsigned "256": error 6`:                     second(Unsigned("256", 1, 7)),
		`Unsigned "x": error 6`:                       second(Unsigned("x", 99, 7)),
		`Unsigned "x": error 7`:                       second(Unsigned("x", 99, 8)),
		`Unsigned "x": error 3`:                       second(Unsigned("x", 10, 8)),
		`Unsigned "": error 3`:                        second(Unsigned("", 10, 8)),
		`Unsigned "-\xff\"": error 3`:                 second(Unsigned("-\xff\"", 10, 8)),
		`Unsigned "256": error 4`:                     second(Unsigned("256", 10, 8)),
		`Unsigned "18446744073709551616": error 4`:    second(Unsigned("18446744073709551616", 10, 64)),
		`Signed "--1": error 6`:                       second(Signed("--1", 1, 0)),
		`Signed "--1": error 7`:                       second(Signed("--1", 1, 64)),
		`Signed "--1": error 3`:                       second(Signed("--1", 0, 64)),
		`Signed "-129": error 4`:                      second(Signed("-129", 10, 8)),
		`Signed "+0x_80": error 4`:                    second(Signed("+0x_80", 0, 8)),
		`Signed "-9223372036854775809": error 4`:      second(Signed("-9223372036854775809", 10, 64)),
		`Signed "-99999999999999999999999": error 4`:  second(Signed("-99999999999999999999999", 10, 16)),
		`Signed "-99999999999999999999999_": error 3`: second(Signed("-99999999999999999999999_", 10, 16)),
		`Tell "": error 6`:                            second(Tell(256, 0, -8)),
		`Tell "": error 7`:                            second(Tell(256, 0, 8)),
		`Tell "": error 4`:                            second(Tell(256, 10, 8)),
		`TellSigned "": error 6`:                      second(TellSigned(-129, 37, 9)),
		`TellSigned "": error 7`:                      second(TellSigned(-129, 37, 8)),
		`TellSigned "": error 4`:                      second(TellSigned(-129, 36, 8)),
		`Clamp "": error 6`:                           second(Clamp(-129, 128)),
	} {
		if err == nil || err.Error() != want {
			t.Errorf("%v, want %s", err, want)
		}
	}
}

func second[T any](_ T, err error) error { return err }

// A fault that is kept keeps nothing of the text that was given.
func TestWD2FaultSharesNothing(t *testing.T) {
	s := strings.Repeat("9", 30)
	for _, err := range []error{second(Unsigned(s, 10, 8)), second(Unsigned(s, 10, 64)), second(Unsigned(s, 10, 7)), second(Unsigned(s, 1, 8)), second(Unsigned(s, 8, 8)), second(Signed(s, 10, 8)), second(Signed(s, 10, 64)), second(Signed(s, 10, 7)), second(Signed(s, 1, 8)), second(Signed(s, 8, 8))} {
		f, ok := err.(*fault.Fault)
		if !ok || f.Text != s {
			t.Errorf("%v does not name the text", err)
		} else if unsafe.StringData(f.Text) == unsafe.StringData(s) {
			t.Errorf("%v shares the text's memory", err)
		}
	}
}

// backUnsigned asks whether a number within a width is told, and read as it.
func backUnsigned(t *testing.T, v uint64, base, width int) {
	t.Helper()
	text, err := Tell(v, base, width)
	if err != nil {
		t.Fatal(err)
	}
	wantUnsigned(t, text, base, width, v, 0)
	wantUnsigned(t, "00"+strings.ToUpper(text), base, width, v, 0)
}

func backSigned(t *testing.T, v int64, base, width int) {
	t.Helper()
	text, err := TellSigned(v, base, width)
	if err != nil {
		t.Fatal(err)
	}
	wantSigned(t, text, base, width, v, 0)
	wantSigned(t, strings.ToUpper(text), base, width, v, 0)
}

func TestWD4ThereAndBack(t *testing.T) {
	for base := 2; base <= 36; base++ {
		for v := range uint64(256) {
			backUnsigned(t, v, base, 8)
			backSigned(t, int64(v)-128, base, 8)
		}
		for _, w := range widths {
			least, greatest, most := boundsOf(w)
			for _, n := range edges() {
				if n.Sign() >= 0 && n.Cmp(most) <= 0 {
					backUnsigned(t, n.Uint64(), base, w)
				}
				if n.Cmp(least) >= 0 && n.Cmp(greatest) <= 0 {
					backSigned(t, n.Int64(), base, w)
				}
			}
		}
	}
	for v := range uint64(65536) {
		backUnsigned(t, v, 10, 16)
		backSigned(t, int64(v)-32768, 10, 16)
	}
}

// What Cut and Clamp answer lies within the width, so it is told.
func TestWD4CutAndClampAreTold(t *testing.T) {
	for _, w := range widths {
		for _, n := range edges() {
			bits := new(big.Int).And(n, power(64, -1)).Uint64()
			low, signed, err := Cut(bits, w)
			wantError(t, err, "Cut", "", 0)
			near, err := Clamp(int64(bits), w)
			wantError(t, err, "Clamp", "", 0)
			backUnsigned(t, low, 10, w)
			backSigned(t, signed, 16, w)
			backSigned(t, near, 36, w)
		}
	}
}

// Whatever the text, the base and the width are, Signed lies within the width's bounds, as Unsigned does; of no width, they are 0.
func TestWD4NeverOutside(t *testing.T) {
	texts := []string{"", "-", "x", "--1", "-0", strings.Repeat("9", 100), "-" + strings.Repeat("z", 100)}
	for _, n := range edges() {
		texts = append(texts, n.String(), n.Text(16), n.Text(2)+"!")
	}
	for _, w := range append(append([]int{}, widths...), noWidths...) {
		least, greatest, most, _ := Bounds(w)
		for _, base := range []int{0, 1, 2, 10, 16, 36, 37} {
			for _, s := range texts {
				if v, err := Signed(s, base, w); v < least || v > greatest {
					t.Errorf("Signed(%.40q, %d, %d): %d, %v", s, base, w, v, err)
				}
				if v, err := Unsigned(s, base, w); v > most {
					t.Errorf("Unsigned(%.40q, %d, %d): %d, %v", s, base, w, v, err)
				}
			}
		}
	}
}
