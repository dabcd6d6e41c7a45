package uints

import (
	"errors"
	"math"
	"math/big"
	"numeral/api"
	"numeral/fault"
	"strings"
	"testing"
)

// noBases are numbers that are no bases, and not 0; some of them would be one with their upper bits cut off, or without their sign.
var noBases = []int{1, -1, 37, 38, -2, -8, -10, -16, -36, -37, 62, 64, 100, 127, 128, 255, 256, 256 + 10, 1<<16 + 16, 1 << 32, 1<<32 + 10, math.MaxInt32, math.MinInt32, math.MaxInt, math.MaxInt - 1, math.MinInt, math.MinInt + 1, math.MinInt + 10}

// allNumbers are those of api.
var allNumbers = []api.Errno{api.ErrArg, api.ErrLong, api.ErrSyntax, api.ErrRange, api.ErrBitSize, api.ErrWidth, api.ErrBase, api.ErrPrecision, api.ErrLayout, api.ErrZero, api.ErrBig, api.ErrBelow, api.ErrDigits, api.ErrCall, api.ErrLine}

// wantFault asks whether an error is a Fault of that call and text, right around that number, and of no other one.
func wantFault(t *testing.T, err error, call, text string, number api.Errno) {
	t.Helper()
	f, ok := err.(*fault.Fault)
	if !ok {
		t.Errorf("%s(%.40q): %v is no Fault", call, text, err)
		return
	}
	if f.Call != call || f.Text != text || f.Err != error(number) {
		t.Errorf("Fault %q, %.40q, %v, want %q, %.40q, %v", f.Call, f.Text, f.Err, call, text, number)
	}
	for _, n := range allNumbers {
		if errors.Is(err, n) != (n == number) {
			t.Errorf("%s(%.40q): errors.Is of %d: %t", call, text, n, n != number)
		}
	}
}

// digitsBy is a number's digits, by the library's great numbers.
func digitsBy(v uint64, base int) string { return new(big.Int).SetUint64(v).Text(base) }

// edges are 0, 1, the powers of a base, those one below and one above them, and the greatest number.
func edges(base int) []uint64 {
	all := []uint64{0, 1, 2, 10, 255, 1234567, math.MaxUint64, math.MaxUint64 - 1, 1 << 63, 1<<63 - 1, 1<<32 - 1, 1 << 32}
	for p := big.NewInt(int64(base)); p.IsUint64(); p.Mul(p, big.NewInt(int64(base))) {
		all = append(all, p.Uint64(), p.Uint64()-1, p.Uint64()+1)
	}
	return all
}

// eachEdge does something for every base and every edge of it.
func eachEdge(do func(v uint64, base int)) {
	for base := 2; base <= 36; base++ {
		for _, v := range edges(base) {
			do(v, base)
		}
	}
}

func TestUI1Format(t *testing.T) {
	for _, c := range []struct {
		v    uint64
		base int
		want string
	}{
		{255, 16, "ff"}, {0, 2, "0"}, {0, 10, "0"}, {0, 36, "0"}, {1, 2, "1"}, {1, 36, "1"}, {2, 2, "10"}, {35, 36, "z"}, {36, 36, "10"}, {10, 11, "a"},
		{math.MaxUint64, 10, "18446744073709551615"}, {math.MaxUint64, 16, "ffffffffffffffff"}, {math.MaxUint64, 36, "3w5e11264sgsf"},
		{math.MaxUint64, 2, strings.Repeat("1", 64)}, {1 << 63, 2, "1" + strings.Repeat("0", 63)}, {493, 8, "755"}, {math.MaxUint64, 8, "1777777777777777777777"},
	} {
		if got, err := Format(c.v, c.base); got != c.want || err != nil {
			t.Errorf("Format(%d, %d): %q, %v, want %q", c.v, c.base, got, err, c.want)
		}
	}
	eachEdge(func(v uint64, base int) {
		if got, err := Format(v, base); got != digitsBy(v, base) || err != nil {
			t.Errorf("Format(%d, %d): %q, %v", v, base, got, err)
		}
	})
}

func TestUI1Len(t *testing.T) {
	for _, c := range []struct {
		v          uint64
		base, want int
	}{
		{0, 2, 1}, {0, 36, 1}, {1, 2, 1}, {2, 2, 2}, {9, 10, 1}, {10, 10, 2}, {255, 16, 2}, {256, 16, 3}, {math.MaxUint64, 2, 64}, {math.MaxUint64, 10, 20}, {math.MaxUint64, 36, 13},
	} {
		if got, err := Len(c.v, c.base); got != c.want || err != nil {
			t.Errorf("Len(%d, %d): %d, %v, want %d", c.v, c.base, got, err, c.want)
		}
	}
	eachEdge(func(v uint64, base int) {
		if got, err := Len(v, base); got != len(digitsBy(v, base)) || err != nil {
			t.Errorf("Len(%d, %d): %d, %v", v, base, got, err)
		}
	})
}

func TestUI1Pad(t *testing.T) {
	for _, c := range []struct {
		v            uint64
		base, length int
		want         string
	}{
		{255, 16, 0, "ff"}, {255, 16, 1, "ff"}, {255, 16, 2, "ff"}, {255, 16, 3, "0ff"}, {255, 16, 4, "00ff"}, {0, 10, 0, "0"}, {0, 10, 1, "0"}, {0, 10, 2, "00"}, {7, 2, 8, "00000111"},
		{0, 10, api.MaxPrecision, strings.Repeat("0", 1100)}, {35, 36, api.MaxPrecision, strings.Repeat("0", 1099) + "z"},
	} {
		if got, err := Pad(c.v, c.base, c.length); got != c.want || err != nil {
			t.Errorf("Pad(%d, %d, %d): %q, %v, want %q", c.v, c.base, c.length, got, err, c.want)
		}
	}
	eachEdge(func(v uint64, base int) {
		digits := digitsBy(v, base)
		for _, length := range []int{0, 1, len(digits) - 1, len(digits), len(digits) + 1, len(digits) + 2, 64, 65, api.MaxPrecision - 1, api.MaxPrecision} {
			want := digits
			for len(want) < length {
				want = "0" + want
			}
			if got, err := Pad(v, base, length); got != want || err != nil {
				t.Errorf("Pad(%d, %d, %d): %q, %v", v, base, length, got, err)
			}
		}
	})
}

func TestUI1PadLengthThatIsNone(t *testing.T) {
	for _, length := range []int{-1, -2, api.MaxPrecision + 1, api.MaxPrecision + 2, -api.MaxPrecision, 1 << 20, 1 << 32, math.MaxInt, math.MinInt, math.MinInt + 1} {
		for _, base := range []int{2, 10, 36} {
			for _, v := range []uint64{0, 1, math.MaxUint64} {
				got, err := Pad(v, base, length)
				if got != "" {
					t.Errorf("Pad(%d, %d, %d): %q", v, base, length, got)
				}
				wantFault(t, err, "Pad", "", api.ErrArg)
			}
		}
	}
}

// groupBy lays an underscore ahead of every piece of so many digits, from the end on.
func groupBy(digits string, each int) string {
	text := ""
	for len(digits) > each {
		text = "_" + digits[len(digits)-each:] + text
		digits = digits[:len(digits)-each]
	}
	return digits + text
}

func TestUI1Group(t *testing.T) {
	for _, c := range []struct {
		v          uint64
		base, each int
		want       string
	}{
		{1234567, 10, 3, "1_234_567"}, {123456, 10, 3, "123_456"}, {123, 10, 3, "123"}, {1234, 10, 3, "1_234"}, {12, 10, 3, "12"}, {0, 10, 1, "0"}, {0, 10, 3, "0"}, {1000, 10, 1, "1_0_0_0"},
		{0xdeadbeef, 16, 4, "dead_beef"}, {255, 2, 4, "1111_1111"}, {256, 2, 4, "1_0000_0000"}, {256, 2, 8, "1_00000000"}, {256, 2, 9, "100000000"}, {256, 2, 10, "100000000"}, {256, 2, math.MaxInt, "100000000"},
		{math.MaxUint64, 10, 3, "18_446_744_073_709_551_615"}, {math.MaxUint64, 2, 1, strings.TrimSuffix(strings.Repeat("1_", 64), "_")},
	} {
		if got, err := Group(c.v, c.base, c.each); got != c.want || err != nil {
			t.Errorf("Group(%d, %d, %d): %q, %v, want %q", c.v, c.base, c.each, got, err, c.want)
		}
	}
	eachEdge(func(v uint64, base int) {
		digits := digitsBy(v, base)
		for _, each := range []int{1, 2, 3, 4, 5, 7, 8, 16, 32, 63, 64, 65, max(1, len(digits)-1), len(digits), len(digits) + 1, 256, 1 << 32, math.MaxInt - 1, math.MaxInt} {
			if got, err := Group(v, base, each); got != groupBy(digits, each) || err != nil {
				t.Errorf("Group(%d, %d, %d): %q, %v", v, base, each, got, err)
			}
		}
	})
}

func TestUI1GroupEachThatIsNone(t *testing.T) {
	for _, each := range []int{0, -1, -2, -3, math.MinInt, math.MinInt + 1, math.MinInt32} {
		for _, base := range []int{2, 10, 36} {
			for _, v := range []uint64{0, 1, 1234567, math.MaxUint64} {
				got, err := Group(v, base, each)
				if got != "" {
					t.Errorf("Group(%d, %d, %d): %q", v, base, each, got)
				}
				wantFault(t, err, "Group", "", api.ErrArg)
			}
		}
	}
}

// The base is asked first: a length or a group that is none changes nothing.
func TestUI1NoBase(t *testing.T) {
	for _, base := range append([]int{0}, noBases...) {
		for _, v := range []uint64{0, 1, 255, math.MaxUint64} {
			text, err := Format(v, base)
			if text != "" {
				t.Errorf("Format(%d, %d): %q", v, base, text)
			}
			wantFault(t, err, "Format", "", api.ErrBase)
			n, err := Len(v, base)
			if n != 0 {
				t.Errorf("Len(%d, %d): %d", v, base, n)
			}
			wantFault(t, err, "Len", "", api.ErrBase)
			for _, m := range []int{3, 0, -1, api.MaxPrecision + 1, math.MaxInt, math.MinInt} {
				text, err = Pad(v, base, m)
				if text != "" {
					t.Errorf("Pad(%d, %d, %d): %q", v, base, m, text)
				}
				wantFault(t, err, "Pad", "", api.ErrBase)
				text, err = Group(v, base, m)
				if text != "" {
					t.Errorf("Group(%d, %d, %d): %q", v, base, m, text)
				}
				wantFault(t, err, "Group", "", api.ErrBase)
			}
		}
	}
}
