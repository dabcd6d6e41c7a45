package base

import (
	"math"
	"numeral/api"
	"strings"
	"testing"
)

// The digits as the chapter tells them, each at its value.
const (
	small = "0123456789abcdefghijklmnopqrstuvwxyz"
	great = "0123456789ABCDEFGHIJKLMNOPQRSTUVWXYZ"
)

// noBases are numbers that are no bases, some of which would be one with their upper bits cut off, or without their sign.
var noBases = []int{1, 0, -1, 37, 38, -2, -10, -16, -36, -37, 62, 64, 100, 127, 128, 255, 256, 256 + 10, 1<<16 + 16, 1<<32 + 2, 1<<32 + 36, math.MaxInt32, math.MinInt32, math.MaxInt, math.MaxInt - 1, math.MinInt, math.MinInt + 1, math.MinInt + 10}

// isOf tells whether a byte is a digit of a base, by the chapter's list.
func isOf(c byte, base int) bool {
	return strings.IndexByte(small[:base], c) >= 0 || strings.IndexByte(great[:base], c) >= 0
}

// eachBase does something for every base.
func eachBase(do func(base int)) {
	for base := 2; base <= 36; base++ {
		do(base)
	}
}

func TestBS1Valid(t *testing.T) {
	for _, base := range noBases {
		if Valid(base) {
			t.Errorf("Valid(%d)", base)
		}
	}
	for base := -1000; base <= 1000; base++ {
		if want := base >= 2 && base <= 36; Valid(base) != want {
			t.Errorf("Valid(%d): %t", base, !want)
		}
	}
}

func TestBS1Value(t *testing.T) {
	count := 0
	for i := range 256 {
		c := byte(i)
		want := max(strings.IndexByte(small, c), strings.IndexByte(great, c))
		is := want >= 0
		if is {
			count++
		}
		if n, ok := Value(c); n != max(want, 0) || ok != is {
			t.Errorf("Value(%q): %d, %t, want %d, %t", c, n, ok, max(want, 0), is)
		}
	}
	if count != 62 {
		t.Errorf("digits: %d", count)
	}
}

func TestBS1ValueOfEdges(t *testing.T) {
	for c, want := range map[byte]int{'0': 0, '9': 9, 'a': 10, 'f': 15, 'z': 35, 'A': 10, 'F': 15, 'Z': 35} {
		if n, ok := Value(c); n != want || !ok {
			t.Errorf("Value(%q): %d, %t, want %d", c, n, ok, want)
		}
	}
	for _, c := range []byte{0, '/', ':', '@', '[', '`', '{', '_', '+', '-', '.', ' ', 127, 128, '0' + 128, 'a' + 128, 'A' + 128, 255} {
		if n, ok := Value(c); n != 0 || ok {
			t.Errorf("Value(%q): %d, %t", c, n, ok)
		}
	}
}

func TestBS1Digit(t *testing.T) {
	for n := range 36 {
		if c, ok := Digit(n); c != small[n] || !ok {
			t.Errorf("Digit(%d): %q, %t, want %q", n, c, ok, small[n])
		}
	}
	for n, want := range map[int]byte{0: '0', 9: '9', 10: 'a', 35: 'z'} {
		if c, ok := Digit(n); c != want || !ok {
			t.Errorf("Digit(%d): %q, %t, want %q", n, c, ok, want)
		}
	}
	for _, n := range []int{-1, 36, 37, -35, -36, 61, 62, 255, 256, 256 + 9, -256, 1 << 32, 1<<32 + 9, math.MaxInt, math.MinInt, math.MinInt + 9} {
		if c, ok := Digit(n); c != 0 || ok {
			t.Errorf("Digit(%d): %q, %t", n, c, ok)
		}
	}
}

func TestBS2Prefix(t *testing.T) {
	for s, want := range map[string][2]int{
		"": {10, 0}, "0": {10, 0}, "1": {10, 0}, "9": {10, 0}, "10": {10, 0}, "b": {10, 0}, "x": {10, 0}, "_": {10, 0}, "\xff": {10, 0}, "\x00": {10, 0},
		"0b": {2, 2}, "0B": {2, 2}, "0b1": {2, 2}, "0B1": {2, 2}, "0b_1": {2, 2}, "0b2": {2, 2}, "0bz": {2, 2}, "0b\xff": {2, 2}, "0b0b": {2, 2}, "0Bx": {2, 2},
		"0o": {8, 2}, "0O": {8, 2}, "0o7": {8, 2}, "0O7": {8, 2}, "0o_7": {8, 2}, "0o8": {8, 2}, "0Oz": {8, 2}, "0o0x1": {8, 2},
		"0x": {16, 2}, "0X": {16, 2}, "0x1f": {16, 2}, "0X1F": {16, 2}, "0x_f": {16, 2}, "0xg": {16, 2}, "0x ": {16, 2}, "0X0b1": {16, 2},
		"00": {8, 1}, "017": {8, 1}, "01": {8, 1}, "08": {8, 1}, "09": {8, 1}, "0_": {8, 1}, "0_7": {8, 1}, "0 ": {8, 1}, "0.": {8, 1}, "0a": {8, 1}, "0z": {8, 1}, "00x1": {8, 1}, "00b": {8, 1}, "0\x00": {8, 1}, "0\xff": {8, 1},
		"x0": {10, 0}, "b0": {10, 0}, "o0": {10, 0}, "1x": {10, 0}, "10x1": {10, 0}, "Ox1": {10, 0}, "o17": {10, 0}, " 0x1": {10, 0}, "-0x1": {10, 0}, "+017": {10, 0}, "_0x1": {10, 0}, "\x000x1": {10, 0}, "\xb0x1": {10, 0}, "9b": {10, 0},
	} {
		if base, n := Prefix(s); base != want[0] || n != want[1] {
			t.Errorf("Prefix(%q): %d, %d, want %d", s, base, n, want)
		}
	}
}

// prefixOf is what BS2 says, word by word.
func prefixOf(s string) (int, int) {
	for _, p := range []struct {
		text string
		base int
	}{{"0b", 2}, {"0B", 2}, {"0o", 8}, {"0O", 8}, {"0x", 16}, {"0X", 16}} {
		if strings.HasPrefix(s, p.text) {
			return p.base, 2
		}
	}
	if strings.HasPrefix(s, "0") && len(s) > 1 {
		return 8, 1
	}
	return 10, 0
}

func TestBS2EveryTwoBytes(t *testing.T) {
	for i := range 1 << 16 {
		s := string([]byte{byte(i >> 8), byte(i)})
		for _, tail := range []string{"", "1", "x", "_"} {
			base, n := Prefix(s + tail)
			if wantBase, want := prefixOf(s + tail); base != wantBase || n != want {
				t.Fatalf("Prefix(%q): %d, %d, want %d, %d", s+tail, base, n, wantBase, want)
			}
		}
	}
	for i := range 256 {
		if base, n := Prefix(string([]byte{byte(i)})); base != 10 || n != 0 {
			t.Errorf("Prefix of the byte %d: %d, %d", i, base, n)
		}
	}
}

func TestBS4Head(t *testing.T) {
	long := strings.Repeat("9a", 1<<15)
	for _, c := range []struct {
		s    string
		base int
		want int
	}{
		{"", 2, 0}, {"", 10, 0}, {"", 36, 0},
		{"0", 2, 1}, {"101", 2, 3}, {"777", 8, 3}, {"1234567890", 10, 10}, {"09afAF", 16, 6}, {"09azAZ", 36, 6}, {"000", 10, 3},
		{"2", 2, 0}, {"8", 8, 0}, {"a", 10, 0}, {"A", 10, 0}, {"g", 16, 0}, {"G", 16, 0}, {"z", 35, 0}, {"Z", 35, 0}, {"y", 35, 1}, {"Y", 35, 1},
		{"102", 2, 2}, {"12ax", 16, 3}, {"12Ax", 16, 3}, {"12ax", 10, 2}, {"12ax", 36, 4}, {"7786", 8, 2}, {"1012", 2, 3}, {"12x34", 10, 2},
		{"_1", 10, 0}, {"1_", 10, 1}, {"1_000", 10, 1}, {"12_34", 36, 2}, {"_", 36, 0}, {"f__f", 16, 1},
		{" 1", 10, 0}, {"1 ", 10, 1}, {"-1", 10, 0}, {"+1", 10, 0}, {"1.5", 10, 1}, {"1e5", 10, 1}, {"0x1f", 16, 1}, {"0b1", 2, 1},
		{"\xff1", 36, 0}, {"1\xff", 36, 1}, {"1\x002", 10, 1}, {"12\u0663", 10, 2}, {"\u0663", 36, 0}, {"1\u00e9", 36, 1},
		{long, 16, 1 << 16}, {long + "_", 16, 1 << 16}, {long, 10, 1}, {long + "g" + long, 16, 1 << 16},
	} {
		if n, err := Head(c.s, c.base); n != c.want || err != nil {
			t.Errorf("Head(%.20q, %d): %d, %v, want %d", c.s, c.base, n, err, c.want)
		}
	}
	for _, base := range noBases {
		for _, s := range []string{"", "1", "x", "_", "12ax", "\xff"} {
			if n, err := Head(s, base); n != 0 || err != api.ErrBase {
				t.Errorf("Head(%q, %d): %d, %v", s, base, n, err)
			}
		}
	}
}

func TestBS4HeadEveryByteAndBase(t *testing.T) {
	eachBase(func(base int) {
		for i := range 256 {
			want := 3
			if isOf(byte(i), base) {
				want = 6
			}
			s := "101" + string([]byte{byte(i)}) + "01"
			if n, err := Head(s, base); n != want || err != nil {
				t.Errorf("Head(%q, %d): %d, %v, want %d", s, base, n, err, want)
			}
		}
	})
}

func TestBS5DigitUndoesValue(t *testing.T) {
	for i := range 256 {
		c := byte(i)
		n, ok := Value(c)
		if !ok {
			continue
		}
		want := c
		if c >= 'A' && c <= 'Z' {
			want = c + 32
		}
		if d, ok := Digit(n); d != want || !ok {
			t.Errorf("Digit(Value(%q)): %q, %t, want %q", c, d, ok, want)
		}
	}
	for n := range 36 {
		c, _ := Digit(n)
		if v, ok := Value(c); v != n || !ok {
			t.Errorf("Value(Digit(%d)): %d, %t", n, v, ok)
		}
	}
}
