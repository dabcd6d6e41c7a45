package ints

import (
	"errors"
	"math"
	"math/big"
	"numeral/api"
	"numeral/fault"
	"strings"
	"testing"
)

// noBases are numbers that are no bases, and not 0; some of them would be one with their upper bits cut off, or without their sign.
var noBases = []int{1, -1, 37, 38, -2, -8, -10, -16, -36, -37, 62, 64, 100, 127, 128, 255, 256, 256 + 10, 1<<16 + 16, 1 << 32, 1<<32 + 10, math.MaxInt32, math.MinInt32, math.MaxInt, math.MaxInt - 1, math.MinInt, math.MinInt + 1, math.MinInt + 10}

// allNumbers are those of api.
var allNumbers = []api.Errno{api.ErrArg, api.ErrLong, api.ErrSyntax, api.ErrRange, api.ErrBitSize, api.ErrWidth, api.ErrBase, api.ErrPrecision, api.ErrLayout, api.ErrZero, api.ErrBig, api.ErrBelow, api.ErrDigits, api.ErrCall, api.ErrLine}

// wantFault asks whether an error is a Fault of that call and text, right around that number, and of no other one.
func wantFault(t *testing.T, err error, call, text string, number api.Errno) {
	t.Helper()
	f, ok := err.(*fault.Fault)
	if !ok {
		t.Errorf("%s(%.40q): %v is no Fault", call, text, err)
		return
	}
	if f.Call != call || f.Text != text || f.Err != error(number) {
		t.Errorf("Fault %q, %.40q, %v, want %q, %.40q, %v", f.Call, f.Text, f.Err, call, text, number)
	}
	for _, n := range allNumbers {
		if errors.Is(err, n) != (n == number) {
			t.Errorf("%s(%.40q): errors.Is of %d: %t", call, text, n, n != number)
		}
	}
}

// parts are the sign and the digits of an integer, by the library's great numbers.
func parts(v int64, base int) (sign, digits string) {
	text := big.NewInt(v).Text(base)
	if v < 0 {
		return "-", text[1:]
	}
	return "", text
}

// edges are 0, the powers of a base, those one below and one above them, with both signs, and the bounds.
func edges(base int) []int64 {
	all := []int64{0, 1, -1, 10, -10, 255, -255, 1234567, -1234567, math.MaxInt64, math.MaxInt64 - 1, math.MinInt64, math.MinInt64 + 1, math.MinInt64 + 2, math.MaxInt32, math.MinInt32, 1 << 32, -1 << 32}
	for p := big.NewInt(int64(base)); p.IsInt64(); p.Mul(p, big.NewInt(int64(base))) {
		n := p.Int64()
		all = append(all, n, n-1, n+1, -n, 1-n, -n-1)
	}
	return all
}

// eachEdge does something for every base and every edge of it.
func eachEdge(do func(v int64, base int)) {
	for base := 2; base <= 36; base++ {
		for _, v := range edges(base) {
			do(v, base)
		}
	}
}

func TestIT1Abs(t *testing.T) {
	for v, want := range map[int64]uint64{
		0: 0, 1: 1, -1: 1, 255: 255, -255: 255, math.MaxInt64: 1<<63 - 1, math.MinInt64: 1 << 63, math.MinInt64 + 1: 1<<63 - 1, math.MaxInt32: 1<<31 - 1, math.MinInt32: 1 << 31, -1 << 32: 1 << 32,
	} {
		if got := Abs(v); got != want {
			t.Errorf("Abs(%d): %d, want %d", v, got, want)
		}
	}
	eachEdge(func(v int64, _ int) {
		if got, want := Abs(v), new(big.Int).Abs(big.NewInt(v)).Uint64(); got != want {
			t.Errorf("Abs(%d): %d, want %d", v, got, want)
		}
	})
}

func TestIT1Make(t *testing.T) {
	for _, c := range []struct {
		neg  bool
		n    uint64
		want int64
		ok   bool
	}{
		{false, 0, 0, true}, {true, 0, 0, true}, {false, 1, 1, true}, {true, 1, -1, true}, {false, 255, 255, true}, {true, 255, -255, true}, {false, 1 << 32, 1 << 32, true}, {true, 1 << 32, -1 << 32, true},
		{false, 1<<63 - 1, math.MaxInt64, true}, {true, 1<<63 - 1, math.MinInt64 + 1, true},
		{false, 1 << 63, 0, false}, {true, 1 << 63, math.MinInt64, true},
		{false, 1<<63 + 1, 0, false}, {true, 1<<63 + 1, 0, false},
		{false, math.MaxUint64, 0, false}, {true, math.MaxUint64, 0, false}, {false, math.MaxUint64 - 1, 0, false}, {true, math.MaxUint64 - 1, 0, false},
	} {
		if got, ok := Make(c.neg, c.n); got != c.want || ok != c.ok {
			t.Errorf("Make(%t, %d): %d, %t, want %d, %t", c.neg, c.n, got, ok, c.want, c.ok)
		}
	}
	eachEdge(func(v int64, _ int) {
		if got, ok := Make(v < 0, Abs(v)); got != v || !ok {
			t.Errorf("Make of %d: %d, %t", v, got, ok)
		}
	})
}

func TestIT2Format(t *testing.T) {
	for _, c := range []struct {
		v    int64
		base int
		want string
	}{
		{-255, 16, "-ff"}, {255, 16, "ff"}, {0, 2, "0"}, {0, 10, "0"}, {0, 36, "0"}, {1, 2, "1"}, {-1, 2, "-1"}, {-1, 36, "-1"}, {-2, 2, "-10"}, {-35, 36, "-z"}, {-36, 36, "-10"}, {-10, 11, "-a"},
		{math.MaxInt64, 10, "9223372036854775807"}, {math.MinInt64, 10, "-9223372036854775808"}, {math.MinInt64 + 1, 10, "-9223372036854775807"},
		{math.MinInt64, 16, "-8000000000000000"}, {math.MaxInt64, 16, "7fffffffffffffff"}, {math.MinInt64, 2, "-1" + strings.Repeat("0", 63)}, {math.MaxInt64, 2, strings.Repeat("1", 63)}, {math.MinInt64, 36, "-1y2p0ij32e8e8"}, {math.MaxInt64, 36, "1y2p0ij32e8e7"},
	} {
		if got, err := Format(c.v, c.base); got != c.want || err != nil {
			t.Errorf("Format(%d, %d): %q, %v, want %q", c.v, c.base, got, err, c.want)
		}
	}
	eachEdge(func(v int64, base int) {
		sign, digits := parts(v, base)
		if got, err := Format(v, base); got != sign+digits || err != nil {
			t.Errorf("Format(%d, %d): %q, %v", v, base, got, err)
		}
	})
}

func TestIT2Len(t *testing.T) {
	for _, c := range []struct {
		v          int64
		base, want int
	}{
		{0, 2, 1}, {0, 36, 1}, {1, 2, 1}, {-1, 2, 2}, {9, 10, 1}, {-9, 10, 2}, {10, 10, 2}, {-10, 10, 3}, {-255, 16, 3}, {256, 16, 3}, {-256, 16, 4},
		{math.MaxInt64, 2, 63}, {math.MinInt64, 2, 65}, {math.MinInt64 + 1, 2, 64}, {math.MaxInt64, 10, 19}, {math.MinInt64, 10, 20}, {math.MaxInt64, 36, 13}, {math.MinInt64, 36, 14},
	} {
		if got, err := Len(c.v, c.base); got != c.want || err != nil {
			t.Errorf("Len(%d, %d): %d, %v, want %d", c.v, c.base, got, err, c.want)
		}
	}
	eachEdge(func(v int64, base int) {
		sign, digits := parts(v, base)
		if got, err := Len(v, base); got != len(sign+digits) || err != nil {
			t.Errorf("Len(%d, %d): %d, %v", v, base, got, err)
		}
	})
}

func TestIT2Pad(t *testing.T) {
	for _, c := range []struct {
		v            int64
		base, length int
		plus         bool
		want         string
	}{
		{-5, 10, 3, false, "-005"}, {-5, 10, 3, true, "-005"}, {5, 10, 3, false, "005"}, {5, 10, 3, true, "+005"}, {0, 10, 3, false, "000"}, {0, 10, 3, true, "+000"},
		{0, 10, 0, false, "0"}, {0, 10, 0, true, "+0"}, {0, 10, 1, true, "+0"}, {0, 10, 2, true, "+00"}, {-5, 10, 0, true, "-5"}, {-5, 10, 1, false, "-5"}, {-5, 10, 2, false, "-05"}, {5, 10, 1, true, "+5"}, {5, 10, 2, true, "+05"},
		{-255, 16, 1, false, "-ff"}, {-255, 16, 2, false, "-ff"}, {-255, 16, 3, false, "-0ff"}, {255, 16, 2, true, "+ff"}, {math.MinInt64, 10, 19, false, "-9223372036854775808"}, {math.MinInt64, 10, 20, true, "-09223372036854775808"}, {math.MaxInt64, 10, 20, true, "+09223372036854775807"},
		{0, 10, api.MaxPrecision, true, "+" + strings.Repeat("0", 1100)}, {-35, 36, api.MaxPrecision, false, "-" + strings.Repeat("0", 1099) + "z"}, {35, 36, api.MaxPrecision, false, strings.Repeat("0", 1099) + "z"},
	} {
		if got, err := Pad(c.v, c.base, c.length, c.plus); got != c.want || err != nil {
			t.Errorf("Pad(%d, %d, %d, %t): %q, %v, want %q", c.v, c.base, c.length, c.plus, got, err, c.want)
		}
	}
	eachEdge(func(v int64, base int) {
		sign, digits := parts(v, base)
		for _, length := range []int{0, 1, len(digits) - 1, len(digits), len(digits) + 1, len(digits) + 2, 64, 65, api.MaxPrecision - 1, api.MaxPrecision} {
			want := strings.Repeat("0", max(0, length-len(digits))) + digits
			if got, err := Pad(v, base, length, false); got != sign+want || err != nil {
				t.Errorf("Pad(%d, %d, %d, false): %q, %v", v, base, length, got, err)
			}
			if v >= 0 {
				sign = "+"
			}
			if got, err := Pad(v, base, length, true); got != sign+want || err != nil {
				t.Errorf("Pad(%d, %d, %d, true): %q, %v", v, base, length, got, err)
			}
			sign = strings.Trim(sign, "+")
		}
	})
}

func TestIT2PadLengthThatIsNone(t *testing.T) {
	for _, length := range []int{-1, -2, api.MaxPrecision + 1, api.MaxPrecision + 2, -api.MaxPrecision, 1 << 20, 1 << 32, math.MaxInt, math.MinInt, math.MinInt + 1} {
		for _, base := range []int{2, 10, 36} {
			for _, v := range []int64{0, 1, -1, math.MaxInt64, math.MinInt64} {
				for _, plus := range []bool{false, true} {
					got, err := Pad(v, base, length, plus)
					if got != "" {
						t.Errorf("Pad(%d, %d, %d, %t): %q", v, base, length, plus, got)
					}
					wantFault(t, err, "Pad", "", api.ErrArg)
				}
			}
		}
	}
}

// groupBy lays an underscore ahead of every piece of so many digits, from the end on.
func groupBy(digits string, each int) string {
	text := ""
	for len(digits) > each {
		text = "_" + digits[len(digits)-each:] + text
		digits = digits[:len(digits)-each]
	}
	return digits + text
}

func TestIT2Group(t *testing.T) {
	for _, c := range []struct {
		v          int64
		base, each int
		want       string
	}{
		{-1234567, 10, 3, "-1_234_567"}, {1234567, 10, 3, "1_234_567"}, {-123456, 10, 3, "-123_456"}, {-123, 10, 3, "-123"}, {-12, 10, 3, "-12"}, {-1234, 10, 1, "-1_2_3_4"}, {-1234, 10, 4, "-1234"}, {-1234, 10, 5, "-1234"}, {-1234, 10, math.MaxInt, "-1234"}, {0, 10, 1, "0"}, {0, 10, 3, "0"}, {-1, 10, 1, "-1"},
		{-0xdeadbeef, 16, 4, "-dead_beef"}, {-255, 2, 4, "-1111_1111"}, {-256, 2, 4, "-1_0000_0000"},
		{math.MinInt64, 10, 3, "-9_223_372_036_854_775_808"}, {math.MaxInt64, 10, 3, "9_223_372_036_854_775_807"}, {math.MinInt64, 2, 1, "-1" + strings.Repeat("_0", 63)},
	} {
		if got, err := Group(c.v, c.base, c.each); got != c.want || err != nil {
			t.Errorf("Group(%d, %d, %d): %q, %v, want %q", c.v, c.base, c.each, got, err, c.want)
		}
	}
	eachEdge(func(v int64, base int) {
		sign, digits := parts(v, base)
		for _, each := range []int{1, 2, 3, 4, 5, 7, 8, 16, 32, 63, 64, 65, max(1, len(digits)-1), len(digits), len(digits) + 1, 256, 1 << 32, math.MaxInt - 1, math.MaxInt} {
			if got, err := Group(v, base, each); got != sign+groupBy(digits, each) || err != nil {
				t.Errorf("Group(%d, %d, %d): %q, %v", v, base, each, got, err)
			}
		}
	})
}

func TestIT2GroupEachThatIsNone(t *testing.T) {
	for _, each := range []int{0, -1, -2, -3, math.MinInt, math.MinInt + 1, math.MinInt32} {
		for _, base := range []int{2, 10, 36} {
			for _, v := range []int64{0, 1, -1, 1234567, -1234567, math.MaxInt64, math.MinInt64} {
				got, err := Group(v, base, each)
				if got != "" {
					t.Errorf("Group(%d, %d, %d): %q", v, base, each, got)
				}
				wantFault(t, err, "Group", "", api.ErrArg)
			}
		}
	}
}

// The base is asked first: a length or a group that is none changes nothing. The base 0 is for reading alone.
func TestIT2NoBase(t *testing.T) {
	for _, base := range append([]int{0}, noBases...) {
		for _, v := range []int64{0, 1, -1, 255, -255, math.MaxInt64, math.MinInt64} {
			text, err := Format(v, base)
			if text != "" {
				t.Errorf("Format(%d, %d): %q", v, base, text)
			}
			wantFault(t, err, "Format", "", api.ErrBase)
			n, err := Len(v, base)
			if n != 0 {
				t.Errorf("Len(%d, %d): %d", v, base, n)
			}
			wantFault(t, err, "Len", "", api.ErrBase)
			for _, m := range []int{3, 0, -1, api.MaxPrecision + 1, math.MaxInt, math.MinInt} {
				text, err = Pad(v, base, m, m == 3)
				if text != "" {
					t.Errorf("Pad(%d, %d, %d): %q", v, base, m, text)
				}
				wantFault(t, err, "Pad", "", api.ErrBase)
				text, err = Group(v, base, m)
				if text != "" {
					t.Errorf("Group(%d, %d, %d): %q", v, base, m, text)
				}
				wantFault(t, err, "Group", "", api.ErrBase)
			}
		}
	}
}
