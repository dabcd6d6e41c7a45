package width

import (
	"errors"
	"math"
	"math/big"
	"numeral/api"
	"numeral/fault"
	"testing"
)

// widths are all that there are.
var widths = []int{8, 16, 32, 64}

// noWidths are numbers that are none; some of them would be one with their upper bits cut off, or without their sign.
var noWidths = []int{math.MinInt, math.MinInt + 1, math.MinInt + 8, math.MinInt + 64, math.MinInt32, -128, -65, -64, -32, -16, -9, -8, -7, -1, 0, 1, 2, 4, 7, 9, 10, 12, 15, 17, 24, 31, 33, 40, 48, 56, 63, 65, 72, 80, 96, 127, 128, 129, 256, 256 + 8, 256 + 64, 1<<16 + 16, 1<<32 + 8, 1<<32 + 32, 1<<32 + 64, math.MaxInt32, math.MaxInt - 1, math.MaxInt}

// noBases are numbers that are no bases, and not 0.
var noBases = []int{1, -1, 37, 38, -2, -8, -10, -16, -36, -37, 62, 64, 100, 256 + 10, 1<<16 + 16, 1<<32 + 10, math.MaxInt32, math.MinInt32, math.MaxInt, math.MaxInt - 1, math.MinInt, math.MinInt + 1, math.MinInt + 10}

// allNumbers are those of api.
var allNumbers = []api.Errno{api.ErrArg, api.ErrLong, api.ErrSyntax, api.ErrRange, api.ErrBitSize, api.ErrWidth, api.ErrBase, api.ErrPrecision, api.ErrLayout, api.ErrZero, api.ErrBig, api.ErrBelow, api.ErrDigits, api.ErrCall, api.ErrLine}

// wantError asks whether an error is a Fault of that call and text, right around that number, and of no other one; of the number 0, whether there is none.
func wantError(t *testing.T, err error, call, text string, number api.Errno) {
	t.Helper()
	if number == 0 {
		if err != nil {
			t.Errorf("%s(%.40q): %v, want no error", call, text, err)
		}
		return
	}
	f, ok := err.(*fault.Fault)
	if !ok {
		t.Errorf("%s(%.40q): %v is no Fault", call, text, err)
		return
	}
	if f.Call != call || f.Text != text || f.Err != error(number) {
		t.Errorf("Fault %q, %.40q, %v, want %q, %.40q, %v", f.Call, f.Text, f.Err, call, text, number)
	}
	for _, n := range allNumbers {
		if errors.Is(err, n) != (n == number) {
			t.Errorf("%s(%.40q): errors.Is of %d: %t", call, text, n, n != number)
		}
	}
}

func wantTell(t *testing.T, v uint64, base, width int, want string, number api.Errno) {
	t.Helper()
	got, err := Tell(v, base, width)
	if got != want {
		t.Errorf("Tell(%d, %d, %d): %q, want %q", v, base, width, got, want)
	}
	wantError(t, err, "Tell", "", number)
}

func wantTellSigned(t *testing.T, v int64, base, width int, want string, number api.Errno) {
	t.Helper()
	got, err := TellSigned(v, base, width)
	if got != want {
		t.Errorf("TellSigned(%d, %d, %d): %q, want %q", v, base, width, got, want)
	}
	wantError(t, err, "TellSigned", "", number)
}

func wantCut(t *testing.T, v uint64, width int, low uint64, signed int64, number api.Errno) {
	t.Helper()
	l, s, err := Cut(v, width)
	if l != low || s != signed {
		t.Errorf("Cut(%d, %d): %d, %d, want %d, %d", v, width, l, s, low, signed)
	}
	wantError(t, err, "Cut", "", number)
}

func wantClamp(t *testing.T, v int64, width int, want int64, number api.Errno) {
	t.Helper()
	got, err := Clamp(v, width)
	if got != want {
		t.Errorf("Clamp(%d, %d): %d, want %d", v, width, got, want)
	}
	wantError(t, err, "Clamp", "", number)
}

// power is 2 to the n, and something more.
func power(n int, more int64) *big.Int {
	p := new(big.Int).Lsh(big.NewInt(1), uint(n))
	return p.Add(p, big.NewInt(more))
}

// boundsOf are what Bounds should answer, by the library's great numbers.
func boundsOf(width int) (least, greatest, most *big.Int) {
	least = power(width-1, 0)
	return least.Neg(least), power(width-1, -1), power(width, -1)
}

// edges are the bounds of all widths and what lies next to them, and some others.
func edges() []*big.Int {
	var all []*big.Int
	for _, n := range []int64{0, 1, 10, 35, 36, 100, 255, 1000, 1234567} {
		all = append(all, big.NewInt(n), big.NewInt(-n))
	}
	for n := 1; n <= 66; n++ {
		for more := int64(-2); more <= 2; more++ {
			p := power(n, more)
			all = append(all, p, new(big.Int).Neg(p))
		}
	}
	return all
}

func TestWD1Valid(t *testing.T) {
	for _, w := range widths {
		wantError(t, Valid(w), "Valid", "", 0)
	}
	for _, w := range noWidths {
		wantError(t, Valid(w), "Valid", "", api.ErrWidth)
	}
	for w := -1000; w <= 1000; w++ {
		number := api.ErrWidth
		if w == 8 || w == 16 || w == 32 || w == 64 {
			number = 0
		}
		wantError(t, Valid(w), "Valid", "", number)
	}
}

func TestWD1Bounds(t *testing.T) {
	for _, c := range []struct {
		width           int
		least, greatest int64
		most            uint64
	}{
		{8, -128, 127, 255},
		{16, -32768, 32767, 65535},
		{32, -2147483648, 2147483647, 4294967295},
		{64, -9223372036854775808, 9223372036854775807, 18446744073709551615},
	} {
		least, greatest, most, err := Bounds(c.width)
		if least != c.least || greatest != c.greatest || most != c.most {
			t.Errorf("Bounds(%d): %d, %d, %d", c.width, least, greatest, most)
		}
		wantError(t, err, "Bounds", "", 0)
	}
	for _, w := range noWidths {
		least, greatest, most, err := Bounds(w)
		if least != 0 || greatest != 0 || most != 0 {
			t.Errorf("Bounds(%d): %d, %d, %d", w, least, greatest, most)
		}
		wantError(t, err, "Bounds", "", api.ErrWidth)
	}
}

// The width is asked first: what the base, the text and the number are changes nothing.
func TestWD1WidthFirst(t *testing.T) {
	bases := append([]int{0, 2, 10, 16, 36}, noBases...)
	texts := []string{"", "0", "1", "-1", "+1", "256", "x", "-", "--1", "_", "0xg", "\xff", "-129", "18446744073709551616", "-99999999999999999999"}
	for _, w := range noWidths {
		for _, base := range bases {
			for _, s := range texts {
				wantUnsigned(t, s, base, w, 0, api.ErrWidth)
				wantSigned(t, s, base, w, 0, api.ErrWidth)
			}
			for _, v := range []uint64{0, 1, 255, 256, 1 << 63, math.MaxUint64} {
				wantTell(t, v, base, w, "", api.ErrWidth)
			}
			for _, v := range []int64{0, 1, -1, 127, 128, -128, -129, math.MaxInt64, math.MinInt64} {
				wantTellSigned(t, v, base, w, "", api.ErrWidth)
			}
		}
		for _, v := range []uint64{0, 1, 127, 128, 255, 256, 1 << 63, math.MaxUint64} {
			wantCut(t, v, w, 0, 0, api.ErrWidth)
		}
		for _, v := range []int64{0, 1, -1, 127, 1000, -1000, math.MaxInt64, math.MinInt64} {
			wantClamp(t, v, w, 0, api.ErrWidth)
		}
	}
}

func TestWD3Tell(t *testing.T) {
	for _, c := range []struct {
		v           uint64
		base, width int
		want        string
	}{
		{0, 2, 8, "0"}, {0, 36, 64, "0"}, {1, 10, 8, "1"}, {200, 10, 8, "200"}, {10, 36, 8, "a"}, {35, 36, 16, "z"},
		{127, 10, 8, "127"}, {128, 10, 8, "128"}, {255, 10, 8, "255"}, {255, 16, 8, "ff"}, {255, 2, 8, "11111111"}, {255, 36, 8, "73"},
		{256, 10, 16, "256"}, {32768, 10, 16, "32768"}, {65535, 10, 16, "65535"}, {65535, 16, 16, "ffff"},
		{65536, 10, 32, "65536"}, {4294967295, 10, 32, "4294967295"}, {4294967295, 36, 32, "1z141z3"},
		{4294967296, 10, 64, "4294967296"}, {1 << 63, 10, 64, "9223372036854775808"}, {math.MaxUint64, 10, 64, "18446744073709551615"}, {math.MaxUint64, 16, 64, "ffffffffffffffff"}, {math.MaxUint64, 36, 64, "3w5e11264sgsf"},
	} {
		wantTell(t, c.v, c.base, c.width, c.want, 0)
	}
}

func TestWD3TellSigned(t *testing.T) {
	for _, c := range []struct {
		v           int64
		base, width int
		want        string
	}{
		{0, 2, 8, "0"}, {0, 36, 64, "0"}, {1, 10, 8, "1"}, {-1, 10, 8, "-1"}, {-1, 2, 64, "-1"}, {-35, 36, 8, "-z"}, {-10, 16, 8, "-a"},
		{127, 10, 8, "127"}, {-128, 10, 8, "-128"}, {127, 16, 8, "7f"}, {-128, 16, 8, "-80"}, {-128, 2, 8, "-10000000"},
		{128, 10, 16, "128"}, {-129, 10, 16, "-129"}, {32767, 10, 16, "32767"}, {-32768, 10, 16, "-32768"}, {-32768, 16, 16, "-8000"},
		{32768, 10, 32, "32768"}, {-32769, 10, 32, "-32769"}, {2147483647, 10, 32, "2147483647"}, {-2147483648, 10, 32, "-2147483648"}, {-2147483648, 36, 32, "-zik0zk"},
		{2147483648, 10, 64, "2147483648"}, {-2147483649, 10, 64, "-2147483649"}, {math.MaxInt64, 10, 64, "9223372036854775807"}, {math.MinInt64, 10, 64, "-9223372036854775808"}, {math.MinInt64, 16, 64, "-8000000000000000"}, {math.MinInt64, 36, 64, "-1y2p0ij32e8e8"},
	} {
		wantTellSigned(t, c.v, c.base, c.width, c.want, 0)
	}
}

// Every edge in every base and width: what lies within is told, what lies outside is ErrRange.
func TestWD3TellEdges(t *testing.T) {
	all := edges()
	for _, w := range widths {
		least, greatest, most := boundsOf(w)
		for base := 2; base <= 36; base++ {
			for _, n := range all {
				if n.IsUint64() {
					text, number := n.Text(base), api.Errno(0)
					if n.Cmp(most) > 0 {
						text, number = "", api.ErrRange
					}
					wantTell(t, n.Uint64(), base, w, text, number)
				}
				if n.IsInt64() {
					text, number := n.Text(base), api.Errno(0)
					if n.Cmp(least) < 0 || n.Cmp(greatest) > 0 {
						text, number = "", api.ErrRange
					}
					wantTellSigned(t, n.Int64(), base, w, text, number)
				}
			}
		}
	}
}

// The base is asked ahead of the range; 0 is none to be told in.
func TestWD3TellNoBase(t *testing.T) {
	for _, w := range widths {
		for _, base := range append([]int{0}, noBases...) {
			for _, v := range []uint64{0, 1, 127, 128, 255, 256, 65535, 65536, math.MaxUint32, math.MaxUint32 + 1, 1 << 63, math.MaxUint64} {
				wantTell(t, v, base, w, "", api.ErrBase)
			}
			for _, v := range []int64{0, 1, -1, 127, 128, -128, -129, 32768, -32769, math.MaxInt32 + 1, math.MinInt32 - 1, math.MaxInt64, math.MinInt64} {
				wantTellSigned(t, v, base, w, "", api.ErrBase)
			}
		}
	}
}

func TestWD3Cut(t *testing.T) {
	for _, c := range []struct {
		v      uint64
		width  int
		low    uint64
		signed int64
	}{
		{255, 8, 255, -1}, {0, 8, 0, 0}, {1, 8, 1, 1}, {127, 8, 127, 127}, {128, 8, 128, -128}, {129, 8, 129, -127}, {254, 8, 254, -2}, {256, 8, 0, 0}, {257, 8, 1, 1}, {383, 8, 127, 127}, {384, 8, 128, -128}, {511, 8, 255, -1}, {1 << 63, 8, 0, 0}, {1<<63 + 128, 8, 128, -128}, {math.MaxUint64, 8, 255, -1}, {math.MaxUint64 - 127, 8, 128, -128}, {math.MaxUint64 - 128, 8, 127, 127},
		{0, 16, 0, 0}, {255, 16, 255, 255}, {32767, 16, 32767, 32767}, {32768, 16, 32768, -32768}, {65535, 16, 65535, -1}, {65536, 16, 0, 0}, {65537, 16, 1, 1}, {1 << 63, 16, 0, 0}, {math.MaxUint64, 16, 65535, -1},
		{0, 32, 0, 0}, {65535, 32, 65535, 65535}, {1<<31 - 1, 32, 1<<31 - 1, 1<<31 - 1}, {1 << 31, 32, 1 << 31, -1 << 31}, {1<<32 - 1, 32, 1<<32 - 1, -1}, {1 << 32, 32, 0, 0}, {1<<32 + 1, 32, 1, 1}, {1 << 63, 32, 0, 0}, {math.MaxUint64, 32, 1<<32 - 1, -1},
		{0, 64, 0, 0}, {1, 64, 1, 1}, {1<<32 - 1, 64, 1<<32 - 1, 1<<32 - 1}, {1<<63 - 1, 64, 1<<63 - 1, math.MaxInt64}, {1 << 63, 64, 1 << 63, math.MinInt64}, {1<<63 + 1, 64, 1<<63 + 1, math.MinInt64 + 1}, {math.MaxUint64, 64, math.MaxUint64, -1},
	} {
		wantCut(t, c.v, c.width, c.low, c.signed, 0)
	}
}

// The signed number is the one within the width's bounds that differs by a multiple of 2^width.
func TestWD3CutEdges(t *testing.T) {
	for _, w := range widths {
		all := power(w, 0)
		_, greatest, _ := boundsOf(w)
		for _, n := range edges() {
			if !n.IsUint64() {
				continue
			}
			low := new(big.Int).Mod(n, all)
			signed := low
			if low.Cmp(greatest) > 0 {
				signed = new(big.Int).Sub(low, all)
			}
			wantCut(t, n.Uint64(), w, low.Uint64(), signed.Int64(), 0)
		}
	}
	for v := range uint64(1 << 17) {
		wantCut(t, v, 8, uint64(uint8(v)), int64(int8(v)), 0)
		wantCut(t, v*0x10001, 16, uint64(uint16(v)), int64(int16(v)), 0)
	}
}

func TestWD3Clamp(t *testing.T) {
	for _, c := range []struct {
		v     int64
		width int
		want  int64
	}{
		{1000, 8, 127}, {-1000, 8, -128}, {0, 8, 0}, {1, 8, 1}, {-1, 8, -1}, {126, 8, 126}, {127, 8, 127}, {128, 8, 127}, {255, 8, 127}, {256, 8, 127}, {-127, 8, -127}, {-128, 8, -128}, {-129, 8, -128}, {-256, 8, -128}, {math.MaxInt64, 8, 127}, {math.MinInt64, 8, -128},
		{0, 16, 0}, {1, 16, 1}, {-1, 16, -1}, {1000, 16, 1000}, {32767, 16, 32767}, {32768, 16, 32767}, {65536, 16, 32767}, {-32768, 16, -32768}, {-32769, 16, -32768}, {math.MaxInt64, 16, 32767}, {math.MinInt64, 16, -32768},
		{0, 32, 0}, {1, 32, 1}, {-1, 32, -1}, {math.MaxInt32, 32, math.MaxInt32}, {math.MaxInt32 + 1, 32, math.MaxInt32}, {1 << 32, 32, math.MaxInt32}, {math.MinInt32, 32, math.MinInt32}, {math.MinInt32 - 1, 32, math.MinInt32}, {math.MaxInt64, 32, math.MaxInt32}, {math.MinInt64, 32, math.MinInt32},
		{0, 64, 0}, {1, 64, 1}, {-1, 64, -1}, {1 << 32, 64, 1 << 32}, {math.MaxInt64, 64, math.MaxInt64}, {math.MaxInt64 - 1, 64, math.MaxInt64 - 1}, {math.MinInt64, 64, math.MinInt64}, {math.MinInt64 + 1, 64, math.MinInt64 + 1},
	} {
		wantClamp(t, c.v, c.width, c.want, 0)
	}
}

func TestWD3ClampEdges(t *testing.T) {
	for _, w := range widths {
		least, greatest, _ := boundsOf(w)
		for _, n := range edges() {
			if !n.IsInt64() {
				continue
			}
			want := n
			if n.Cmp(least) < 0 {
				want = least
			} else if n.Cmp(greatest) > 0 {
				want = greatest
			}
			wantClamp(t, n.Int64(), w, want.Int64(), 0)
		}
	}
}
