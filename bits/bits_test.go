package bits

import (
	"math"
	"math/big"
	"testing"

	"numeral/api"
)

const fine = api.ClassFine

var sizes = []int{32, 64}

// noSizes are numbers that are no size.
var noSizes = []int{0, 1, 8, 16, 23, 24, 31, 33, 52, 53, 63, 65, 128, -1, -32, -64, 32 << 8, 64 + 1<<32, 32 - 1<<32, math.MinInt, math.MaxInt, math.MinInt + 32, math.MinInt + 64}

// named are floats at the places of weight, without a sign, from the nought to the infinity, and behind it NaNs.
func named(size int) []uint64 {
	if size == 32 {
		return []uint64{0, 1, 2, 3, 0x3fffff, 0x400000, 0x7ffffe, 0x7fffff, 0x800000, 0x800001, 0xfffffe, 0xffffff, 0x1000000, 0x1000001, 0x3dcccccd, 0x3f7fffff, 0x3f800000, 0x3f800001, 0x3fc00000, 0x40000000, 0x4b7fffff, 0x4b800000, 0x7effffff, 0x7f000000, 0x7f7ffffe, 0x7f7fffff, 0x7f800000,
			0x7f800001, 0x7f800002, 0x7fa00000, 0x7fbfffff, 0x7fc00000, 0x7fc00001, 0x7fffffff}
	}
	return []uint64{0, 1, 2, 3, 1<<32 - 1, 1 << 32, 1<<51 - 1, 1 << 51, 1<<52 - 2, 1<<52 - 1, 1 << 52, 1<<52 + 1, 1<<53 - 2, 1<<53 - 1, 1 << 53, 1<<53 + 1, 0x3fb999999999999a, 0x3fefffffffffffff, 0x3ff0000000000000, 0x3ff0000000000001, 0x3ff8000000000000, 0x4000000000000000, 0x433fffffffffffff, 0x4340000000000000, 0x7fdfffffffffffff, 0x7fe0000000000000, 0x7feffffffffffffe, 0x7fefffffffffffff, 0x7ff0000000000000,
		0x7ff0000000000001, 0x7ff0000000000002, 0x7ff4000000000000, 0x7ff7ffffffffffff, 0x7ff8000000000000, 0x7ff8000000000001, 0x7fffffffffffffff}
}

func sign(size int) uint64 { return 1 << (size - 1) }

// both are the named floats with either sign.
func both(size int) []uint64 {
	list := named(size)
	for _, b := range named(size) {
		list = append(list, b|sign(size))
	}
	return list
}

// value is a float by the machine's own numbers; every float of 32 bits is one of 64.
func value(bits uint64, size int) float64 {
	if size == 32 {
		return float64(math.Float32frombits(uint32(bits)))
	}
	return math.Float64frombits(bits)
}

// classOf is a float's class, asked of the machine.
func classOf(bits uint64, size int) int {
	switch v := value(bits, size); {
	case v != v:
		return api.ClassNaN
	case v == 0:
		return api.ClassZero
	case math.IsInf(v, 0):
		return api.ClassInf
	}
	return api.ClassFine
}

// many calls f with bits of a size all over it, the named ones among them, and those near to them.
func many(size int, f func(bits uint64)) {
	mask := sign(size) | (sign(size) - 1)
	for _, b := range both(size) {
		for near := range uint64(8) {
			f((b + near - 4) & mask)
		}
	}
	// Sign and exponent are 9 bits or 12.
	head := size/32*3 + 6
	for i := range uint64(1) << head {
		for near := range uint64(5) {
			f((i<<(size-head) + near - 2) & mask)
		}
	}
	step := mask/200003 | 1
	for i := range uint64(200003) {
		f((i*step ^ i*i) & mask)
	}
}

// exact is mant * 2^exp; exponents far out are brought near to both ends.
func exact(mant uint64, exp int) *big.Float {
	near := max(-5000, min(exp, 5000))
	return new(big.Float).SetMantExp(new(big.Float).SetPrec(64).SetUint64(mant), near)
}

// wantOnly asks that beside an error all is zero.
func wantOnly[T comparable](t *testing.T, call string, got T, err error, want api.Errno) {
	t.Helper()
	var zero T
	if err != want || got != zero {
		t.Errorf("%s: %v, %v, want %v, %v", call, got, err, zero, want)
	}
}

func TestBT1Check(t *testing.T) {
	for _, c := range []struct {
		bits uint64
		size int
		want error
	}{
		{0, 32, nil}, {1, 32, nil}, {1<<32 - 1, 32, nil}, {1 << 31, 32, nil}, {0x7fc00000, 32, nil}, {1 << 32, 32, api.ErrArg}, {1<<32 + 1, 32, api.ErrArg}, {1 << 33, 32, api.ErrArg}, {1 << 63, 32, api.ErrArg}, {0x7ff8000000000000, 32, api.ErrArg}, {1<<64 - 1, 32, api.ErrArg}, {1<<64 - 1<<32, 32, api.ErrArg},
		{0, 64, nil}, {1, 64, nil}, {1<<32 - 1, 64, nil}, {1 << 32, 64, nil}, {1 << 63, 64, nil}, {1<<64 - 1, 64, nil},
	} {
		if err := Check(c.bits, c.size); err != c.want {
			t.Errorf("Check(%#x, %d): %v, want %v", c.bits, c.size, err, c.want)
		}
	}
	for _, size := range sizes {
		many(size, func(bits uint64) {
			if err := Check(bits, size); err != nil {
				t.Errorf("Check(%#x, %d): %v", bits, size, err)
			}
		})
	}
}

// What is no size is told ahead of bits that are none and of parts that are none.
func TestSizesThatAreNone(t *testing.T) {
	for _, size := range noSizes {
		for _, bits := range []uint64{0, 1, 0x3f800000, 0x7f800000, 0x7fc00000, 1<<32 - 1, 1 << 32, 0x7ff0000000000000, 0x7ff8000000000000, 1<<64 - 1} {
			wantOnly(t, "Check", 0, Check(bits, size), api.ErrBitSize)
			f, err := Unpack(bits, size)
			wantOnly(t, "Unpack", f, err, api.ErrBitSize)
			class, err := Class(bits, size)
			wantOnly(t, "Class", class, err, api.ErrBitSize)
			next, err := Next(bits, size)
			wantOnly(t, "Next", next, err, api.ErrBitSize)
			prev, err := Prev(bits, size)
			wantOnly(t, "Prev", prev, err, api.ErrBitSize)
			for _, other := range []uint64{0, 0x7fc00000, 1 << 32, 1<<64 - 1} {
				n, err := Compare(bits, other, size)
				wantOnly(t, "Compare", n, err, api.ErrBitSize)
				n, err = Compare(other, bits, size)
				wantOnly(t, "Compare", n, err, api.ErrBitSize)
			}
		}
		for class := -1; class <= 6; class++ {
			for _, mant := range []uint64{0, 1, 1<<64 - 1} {
				for _, exp := range []int{0, 5000, math.MinInt, math.MaxInt} {
					bits, err := Pack(api.Float{Class: class, Mant: mant, Exp: exp}, size)
					wantOnly(t, "Pack", bits, err, api.ErrBitSize)
				}
			}
		}
		for name, call := range map[string]func() (uint64, error){
			"Inf":   func() (uint64, error) { return Inf(false, size) },
			"-Inf":  func() (uint64, error) { return Inf(true, size) },
			"NaN":   func() (uint64, error) { return NaN(size) },
			"Zero":  func() (uint64, error) { return Zero(false, size) },
			"-Zero": func() (uint64, error) { return Zero(true, size) },
			"Most":  func() (uint64, error) { return Most(size) },
			"Least": func() (uint64, error) { return Least(size) },
		} {
			bits, err := call()
			wantOnly(t, name, bits, err, api.ErrBitSize)
		}
	}
}

// Bits above the size's are refused, whatever those within it would be.
func TestBitsAboveTheSize(t *testing.T) {
	for _, low := range both(32) {
		for _, high := range []uint64{1 << 32, 1 << 63, 1<<64 - 1<<32} {
			bits := high | low
			f, err := Unpack(bits, 32)
			wantOnly(t, "Unpack", f, err, api.ErrArg)
			class, err := Class(bits, 32)
			wantOnly(t, "Class", class, err, api.ErrArg)
			next, err := Next(bits, 32)
			wantOnly(t, "Next", next, err, api.ErrArg)
			prev, err := Prev(bits, 32)
			wantOnly(t, "Prev", prev, err, api.ErrArg)
			wide, err := Widen(bits)
			wantOnly(t, "Widen", wide, err, api.ErrArg)
			for _, other := range []uint64{0, 1, 0x7f800000, 0x7fc00000, 1<<32 - 1, 1 << 32, bits, 1<<64 - 1} {
				n, err := Compare(bits, other, 32)
				wantOnly(t, "Compare", n, err, api.ErrArg)
				n, err = Compare(other, bits, 32)
				wantOnly(t, "Compare", n, err, api.ErrArg)
			}
		}
	}
}

func TestBT1Unpack(t *testing.T) {
	for _, c := range []struct {
		bits uint64
		size int
		want api.Float
	}{
		{0x3ff8000000000000, 64, api.Float{Class: fine, Mant: 3 << 51, Exp: -52}},
		{0x3ff0000000000000, 64, api.Float{Class: fine, Mant: 1 << 52, Exp: -52}},
		{0, 64, api.Float{Class: api.ClassZero}},
		{1, 64, api.Float{Class: fine, Mant: 1, Exp: -1074}},
		{1<<52 - 1, 64, api.Float{Class: fine, Mant: 1<<52 - 1, Exp: -1074}},
		{1 << 52, 64, api.Float{Class: fine, Mant: 1 << 52, Exp: -1074}},
		{1<<53 - 1, 64, api.Float{Class: fine, Mant: 1<<53 - 1, Exp: -1074}},
		{1 << 53, 64, api.Float{Class: fine, Mant: 1 << 52, Exp: -1073}},
		{0x7fefffffffffffff, 64, api.Float{Class: fine, Mant: 1<<53 - 1, Exp: 971}},
		{0x7ff0000000000000, 64, api.Float{Class: api.ClassInf}},
		{0x7ff0000000000001, 64, api.Float{Class: api.ClassNaN}},
		{0x7ff8000000000000, 64, api.Float{Class: api.ClassNaN}},
		{0x3fc00000, 32, api.Float{Class: fine, Mant: 3 << 22, Exp: -23}},
		{0, 32, api.Float{Class: api.ClassZero}},
		{1, 32, api.Float{Class: fine, Mant: 1, Exp: -149}},
		{1<<23 - 1, 32, api.Float{Class: fine, Mant: 1<<23 - 1, Exp: -149}},
		{1 << 23, 32, api.Float{Class: fine, Mant: 1 << 23, Exp: -149}},
		{1<<24 - 1, 32, api.Float{Class: fine, Mant: 1<<24 - 1, Exp: -149}},
		{1 << 24, 32, api.Float{Class: fine, Mant: 1 << 23, Exp: -148}},
		{0x7f7fffff, 32, api.Float{Class: fine, Mant: 1<<24 - 1, Exp: 104}},
		{0x7f800000, 32, api.Float{Class: api.ClassInf}},
		{0x7f800001, 32, api.Float{Class: api.ClassNaN}},
		{0x7fc00000, 32, api.Float{Class: api.ClassNaN}},
	} {
		for _, neg := range []bool{false, true} {
			bits, want := c.bits, c.want
			if neg {
				bits |= sign(c.size)
				want.Neg = want.Class != api.ClassNaN
			}
			if f, err := Unpack(bits, c.size); f != want || err != nil {
				t.Errorf("Unpack(%#x, %d): %v, %v, want %v", bits, c.size, f, err, want)
			}
		}
	}
}

func TestBT1Classes(t *testing.T) {
	for _, size := range sizes {
		many(size, func(bits uint64) {
			want := classOf(bits, size)
			if class, err := Class(bits, size); class != want || err != nil {
				t.Errorf("Class(%#x, %d): %v, %v, want %v", bits, size, class, err, want)
			}
			f, err := Unpack(bits, size)
			neg := bits&sign(size) != 0 && want != api.ClassNaN
			if err != nil || f.Class != want || f.Neg != neg {
				t.Errorf("Unpack(%#x, %d): %v, %v, want class %d, neg %v", bits, size, f, err, want, neg)
			}
			if want != fine {
				if f.Mant != 0 || f.Exp != 0 {
					t.Errorf("Unpack(%#x, %d): %v is not fine", bits, size, f)
				}
				return
			}
			v, _ := exact(f.Mant, f.Exp).Float64()
			if v != math.Abs(value(bits, size)) {
				t.Errorf("Unpack(%#x, %d): %v is %v", bits, size, f, v)
			}
		})
	}
}

// The mantissa is the bits' own, with the hidden bit just where they have one.
func TestBT1Mantissas(t *testing.T) {
	for _, c := range []struct{ size, mant, least, most int }{{32, 23, -149, 104}, {64, 52, -1074, 971}} {
		hidden := uint64(1) << c.mant
		many(c.size, func(bits uint64) {
			f, _ := Unpack(bits, c.size)
			if f.Class != fine {
				return
			}
			if f.Mant&(hidden-1) != bits&(hidden-1) || f.Mant >= 2*hidden || f.Exp < c.least || f.Exp > c.most || f.Mant < hidden && f.Exp != c.least {
				t.Errorf("Unpack(%#x, %d): %v", bits, c.size, f)
			}
		})
	}
}

func TestBT2(t *testing.T) {
	for _, c := range []struct {
		name         string
		call         func(size int) (uint64, error)
		small, great uint64
	}{
		{"Inf", func(size int) (uint64, error) { return Inf(false, size) }, 0x7f800000, 0x7ff0000000000000},
		{"-Inf", func(size int) (uint64, error) { return Inf(true, size) }, 0xff800000, 0xfff0000000000000},
		{"NaN", NaN, 0x7fc00000, 0x7ff8000000000000},
		{"Zero", func(size int) (uint64, error) { return Zero(false, size) }, 0, 0},
		{"-Zero", func(size int) (uint64, error) { return Zero(true, size) }, 1 << 31, 1 << 63},
		{"Most", Most, 0x7f7fffff, 0x7fefffffffffffff},
		{"Least", Least, 1, 1},
	} {
		if bits, err := c.call(32); bits != c.small || err != nil {
			t.Errorf("%s of 32: %#x, %v", c.name, bits, err)
		}
		if bits, err := c.call(64); bits != c.great || err != nil {
			t.Errorf("%s of 64: %#x, %v", c.name, bits, err)
		}
	}
}
