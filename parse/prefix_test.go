package parse

import (
	"strings"
	"testing"

	"numeral/api"
	"numeral/meter"
)

func TestPS2Named(t *testing.T) {
	noughts := strings.Repeat("0", 3000)
	for _, c := range []struct {
		s      string
		size   int
		want   uint64
		length int
	}{
		{"2.5kg", 64, 0x4004000000000000, 3},
		{"2.5kg", 32, 0x40200000, 3},
		{"-2.5 kg", 64, 0xc004000000000000, 4},
		{"2.5", 64, 0x4004000000000000, 3},
		{"1e+x", 64, 0x3ff0000000000000, 1},
		{"1e", 64, 0x3ff0000000000000, 1},
		{"1.e", 32, 0x3f800000, 2},
		{"1..5", 64, 0x3ff0000000000000, 2},
		{"1.5.5", 64, 0x3ff8000000000000, 3},
		{"1_", 64, 0x3ff0000000000000, 1},
		{"1__0", 64, 0x3ff0000000000000, 1},
		{"1_0_x", 64, 0x4024000000000000, 3},
		{"1e2_", 64, 0x4059000000000000, 3},
		{"0x1", 64, 0, 1},
		{"-0x1", 64, 0x8000000000000000, 2},
		{"-0x1", 32, 0x80000000, 2},
		{"0x1p", 32, 0, 1},
		{"0x1.8p1.5", 64, 0x4008000000000000, 7},
		{"-0x.8p1_", 32, 0xbf800000, 7},
		{"inf", 32, 0x7f800000, 3},
		{"infinit", 64, 0x7ff0000000000000, 3},
		{"-Infinity!", 64, 0xfff0000000000000, 9},
		{"nano", 64, 0x7ff8000000000000, 3},
		{"NaNN", 32, 0x7fc00000, 3},
		{"-0 ", 32, 0x80000000, 2},
		{"-1e-400x", 64, 0x8000000000000000, 7},
		{"9007199254740993." + noughts + "1x", 64, 0x4340000000000001, 3018},
		{"9007199254740993." + noughts + "_1", 64, 0x4340000000000001, 3019},
		{"9007199254740993." + noughts + "__1", 64, 0x4340000000000000, 3017},
		{"1" + noughts + "e-3000e", 64, 0x3ff0000000000000, 3007},
	} {
		wantPrefix(t, c.s, c.size, c.want, c.length, 0)
	}
}

// Beyond all floats the infinity and the length stand beside ErrRange; the fault's text is the whole one.
func TestPS2Range(t *testing.T) {
	for _, f := range formats {
		for _, begin := range []string{"1e400", "+1.8e309", "9e99999999999999999999", "0x1p2000", strings.Repeat("9", 5000)} {
			for _, behind := range []string{"", "x", " ", "kg", "_", "__0", "\x00", "+", "p"} {
				wantPrefix(t, begin+behind, f.size, f.inf(), len(begin), api.ErrRange)
				wantPrefix(t, "-"+strings.TrimPrefix(begin, "+")+behind, f.size, f.sign()|f.inf(), len("-"+strings.TrimPrefix(begin, "+")), api.ErrRange)
			}
		}
		// What stands behind a shorter begin does not count.
		wantPrefix(t, "1e 400", f.size, f.one(), 1, 0)
		wantPrefix(t, "1__e400", f.size, f.one(), 1, 0)
	}
}

func TestPS2None(t *testing.T) {
	for _, s := range []string{"", "+", "-", ".", "-.", "._5", "_1", "+_1", "e5", "x1", "+nan", "-nan", "in", "na", "+-1", "--1", " 1", "kg", "..5", "\xff1", strings.Repeat(".", 5000)} {
		for _, f := range formats {
			wantPrefix(t, s, f.size, 0, 0, api.ErrSyntax)
		}
	}
}

// A size that is none comes first, whatever the text is.
func TestPS2Sizes(t *testing.T) {
	for _, size := range noSizes {
		for _, s := range append(texts, refused...) {
			wantPrefix(t, s, size, 0, 0, api.ErrBitSize)
		}
	}
}

// longest is how many bytes the longest begin of a text has that is in the grammar; 0 of none.
func longest(s string) int {
	for n := len(s); n > 0; n-- {
		if grammar.MatchString(s[:n]) {
			return n
		}
	}
	return 0
}

// wantBegin asks Prefix for what Parse answers of the longest begin: the road that is counted, too.
func wantBegin(t *testing.T, s string, size int) {
	t.Helper()
	n := longest(s)
	if n == 0 {
		wantPrefix(t, s, size, 0, 0, api.ErrSyntax)
		return
	}
	alone, m := meter.New(), meter.New()
	want, err := Parse(s[:n], size, alone)
	number := api.Errno(0)
	if err != nil {
		number = api.ErrRange
	}
	wantPrefix(t, s, size, want, n, number)
	Prefix(s, size, m)
	if m.Tally() != alone.Tally() {
		t.Errorf("Prefix(%q, %d): %s, want %s", s, size, m.Text(), alone.Text())
	}
}

// Every begin of a text, with all that may follow behind it.
func TestPS2EveryBegin(t *testing.T) {
	for _, f := range formats {
		for _, s := range append(texts, "-12.50e3", "1_0.2_5e+1_0", "0X_aF.bC_dP+1_0", "+Infinity") {
			for n := range len(s) + 1 {
				for _, behind := range []string{"", " ", "x", "_", ".", "e", "p", "+", "0", "__0", "_0", "e+", "e1", "p1", "inf", "9e999"} {
					wantBegin(t, s[:n]+behind, f.size)
				}
			}
		}
		eachText("01._e-xp", 4, func(s string) { wantBegin(t, s, f.size) })
	}
}
