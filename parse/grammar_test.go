package parse

import (
	"math"
	"regexp"
	"strings"
	"testing"

	"numeral/api"
	"numeral/scan"
)

// A run of digits, of decimal and of hexadecimal ones, with underscores between two.
const (
	tens     = `[0-9](?:_?[0-9])*`
	sixteens = `[0-9a-fA-F](?:_?[0-9a-fA-F])*`
)

// grammar is that of a float's text, told anew.
var grammar = regexp.MustCompile(`^(?:[+-]?[Ii][Nn][Ff](?:[Ii][Nn][Ii][Tt][Yy])?|[Nn][Aa][Nn]|` +
	`[+-]?(?:` + tens + `(?:\.(?:` + tens + `)?)?|\.` + tens + `)(?:[eE][+-]?` + tens + `)?|` +
	`[+-]?0[xX](?:_?` + sixteens + `(?:\.(?:` + sixteens + `)?)?|\.` + sixteens + `)[pP][+-]?` + tens + `)$`)

// refused are texts outside the grammar.
var refused = []string{
	"", "+", "-", "++", "--1", "+-1", "-+1", ".", "+.", "-.", "..", "1..2", "1.2.3", "1,5",
	"e", "e5", ".e5", "+e5", "1e", "1E", "1.e", ".5e", "1e+", "1e-", "1e++5", "1e5.", "1e.5", "1e5e5", "1p5", "1f", "1d5",
	"1x", "1 ", " 1", "1 2", "\t1", "1\n", "1\x00", "2.5kg", "1e5L", "$1", "1%", "\xff", "1\xff", "∞", "\uff11", "\u22121",
	"_", "_1", "1_", "1__0", "+_1", "_+1", "1_.5", "1._5", "1.5_", "_.5", "._5", "1_e5", "1e_5", "1e5_", "1e+_5", "1e5__0", "1.0__5",
	"0x", "0X", "0x.", "0x.p0", "0xp0", "0x1", "0x1.8", "0x1p", "0x1p+", "0x1p.5", "0x1e5", "0x1pa", "0xg.p0", "x1p0", "00x1p0", "0b1p0", "0b1", "0o7", "0x-1p0",
	"0_x1p0", "0x_", "0x__1p0", "0x_.8p0", "0x._8p0", "0x1_.8p0", "0x1._8p0", "0x1_p0", "0x1p_0", "0x1p0_", "_0x1p0",
	"i", "in", "infi", "infinit", "infinityy", "inff", "++inf", "+-inf", "- inf", "inf ", " inf", "i_nf", "inf_", "infinite", "ınf", "İnf",
	"n", "na", "nann", "nan ", " nan", "+nan", "-nan", "+NaN", "-NaN", "n_an", "nan_", "NaN(1)", "nil", "null",
	strings.Repeat("1", 5000) + "x", "0." + strings.Repeat("0", 5000) + "1e", strings.Repeat("1_", 5000), strings.Repeat("-", 5000), "1e" + strings.Repeat("9", 5000) + "_",
}

func TestPS1Refused(t *testing.T) {
	for _, s := range refused {
		for _, f := range formats {
			wantParse(t, s, f.size, 0, api.ErrSyntax)
		}
	}
}

// cases calls do with a word of small letters in all ways of great and small.
func cases(word string, do func(s string)) {
	for mask := range 1 << len(word) {
		s := []byte(word)
		for i := range s {
			if mask>>i&1 == 1 {
				s[i] -= 'a' - 'A'
			}
		}
		do(string(s))
	}
}

func TestPS1Infinities(t *testing.T) {
	for _, f := range formats {
		for _, word := range []string{"inf", "infinity"} {
			cases(word, func(s string) {
				wantParse(t, s, f.size, f.inf(), 0)
				wantParse(t, "+"+s, f.size, f.inf(), 0)
				wantParse(t, "-"+s, f.size, f.sign()|f.inf(), 0)
			})
		}
	}
}

func TestPS1NaNs(t *testing.T) {
	for _, f := range formats {
		cases("nan", func(s string) {
			wantParse(t, s, f.size, f.nan(), 0)
			wantParse(t, "+"+s, f.size, 0, api.ErrSyntax)
			wantParse(t, "-"+s, f.size, 0, api.ErrSyntax)
		})
	}
}

// A size that is none comes ahead of everything, whatever the text is.
func TestPS1Sizes(t *testing.T) {
	for _, size := range noSizes {
		for _, s := range append(texts, refused...) {
			wantParse(t, s, size, 0, api.ErrBitSize)
		}
	}
}

// Behind the size comes the grammar, and the range last: a number beyond all floats with something wrong behind it is a text outside the grammar.
func TestPS1Order(t *testing.T) {
	for _, s := range []string{"1e400", "-1e400", "0x1p2000", "-0x1p2000"} {
		for _, f := range formats {
			want := f.inf()
			if s[0] == '-' {
				want |= f.sign()
			}
			wantParse(t, s, f.size, want, api.ErrRange)
			wantParse(t, s+"x", f.size, 0, api.ErrSyntax)
			wantParse(t, " "+s, f.size, 0, api.ErrSyntax)
			wantParse(t, s+"_", f.size, 0, api.ErrSyntax)
		}
		for _, size := range []int{0, -1, 16, 33, 63, 128, math.MinInt} {
			wantParse(t, s, size, 0, api.ErrBitSize)
			wantParse(t, s+"x", size, 0, api.ErrBitSize)
		}
	}
}

// wantGrammar asks for ErrSyntax just where a text lies outside the grammar.
func wantGrammar(t *testing.T, s string) {
	t.Helper()
	in := grammar.MatchString(s)
	if scan.Valid(s) != in {
		t.Errorf("scan.Valid(%q) is %v", s, !in)
	}
	for _, f := range formats {
		_, err := Parse(s, f.size, nil)
		if in {
			if err != nil && err.(interface{ Unwrap() error }).Unwrap() != error(api.ErrRange) {
				t.Errorf("Parse(%q, %d): %v", s, f.size, err)
			}
			continue
		}
		wantParse(t, s, f.size, 0, api.ErrSyntax)
	}
}

// Every byte at every place, as one more and in the place of another.
func TestPS5Grammar(t *testing.T) {
	for _, s := range append(texts, refused...) {
		if len(s) < 100 {
			wantGrammar(t, s)
		}
	}
	for _, s := range []string{"-12.5e+3", "1_0.2E-1_0", ".5", "5.", "-0x1.8p-3", "0X_aF.bP+1_0", "inf", "-Infinity", "nan"} {
		for at := range len(s) + 1 {
			for c := range 256 {
				b := string([]byte{byte(c)})
				wantGrammar(t, s[:at]+b+s[at:])
				if at < len(s) {
					wantGrammar(t, s[:at]+b+s[at+1:])
				}
			}
		}
	}
}

// eachText does something for every text of at most so many of some bytes.
func eachText(bytes string, most int, do func(s string)) {
	do("")
	if most == 0 {
		return
	}
	for i := range len(bytes) {
		eachText(bytes, most-1, func(s string) { do(bytes[i:i+1] + s) })
	}
}

func TestPS5EveryShortText(t *testing.T) {
	for _, c := range []struct {
		ahead, bytes string
		most         int
	}{
		{"", "05._e-", 4}, {"-1", "0.E+ ", 4}, {"1e", "9_-+.", 4}, {"0x", "0a._p-", 4}, {"0x1p", "2_+.p", 3}, {"", "inaf", 4}, {"inf", "inity", 3},
	} {
		eachText(c.bytes, c.most, func(s string) { wantGrammar(t, c.ahead+s) })
	}
}
