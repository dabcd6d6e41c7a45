package bits

import (
	"math"
	"math/big"
	"math/bits"
	"testing"

	"numeral/api"
)

// packed is what BT1 says of a fine float's parts, by the library's great numbers.
func packed(neg bool, mant uint64, exp, size int) (uint64, error) {
	v := exact(mant, exp)
	if neg {
		v.Neg(v)
	}
	if size == 32 {
		near, told := v.Float32()
		if told != big.Exact {
			return 0, api.ErrRange
		}
		return uint64(math.Float32bits(near)), nil
	}
	near, told := v.Float64()
	if told != big.Exact {
		return 0, api.ErrRange
	}
	return math.Float64bits(near), nil
}

func wantPack(t *testing.T, f api.Float, size int, want uint64, refused error) {
	t.Helper()
	if b, err := Pack(f, size); b != want || err != refused {
		t.Errorf("Pack(%+v, %d): %#x, %v, want %#x, %v", f, size, b, err, want, refused)
	}
}

// wantFine asks for what BT1 says of a fine float, with both signs and of both sizes.
func wantFine(t *testing.T, mant uint64, exp int) {
	t.Helper()
	for _, size := range sizes {
		for _, neg := range []bool{false, true} {
			want, refused := packed(neg, mant, exp, size)
			wantPack(t, api.Float{Neg: neg, Class: fine, Mant: mant, Exp: exp}, size, want, refused)
		}
	}
}

func TestBT1Pack(t *testing.T) {
	for _, c := range []struct {
		mant uint64
		exp  int
		size int
		want uint64
	}{
		{3, -1, 64, 0x3ff8000000000000}, {3 << 51, -52, 64, 0x3ff8000000000000}, {3 << 62, -63, 64, 0x3ff8000000000000}, {1, 0, 64, 0x3ff0000000000000},
		{1, -1074, 64, 1}, {1 << 63, -1074 - 63, 64, 1}, {1<<52 - 1, -1074, 64, 1<<52 - 1}, {1<<63 - 1<<11, -1085, 64, 1<<52 - 1}, {1 << 52, -1074, 64, 1 << 52}, {1, -1022, 64, 1 << 52}, {1 << 63, -1085, 64, 1 << 52}, {1, -1023, 64, 1 << 51},
		{1<<53 - 1, 971, 64, 0x7fefffffffffffff}, {1<<64 - 1<<11, 960, 64, 0x7fefffffffffffff}, {1, 1023, 64, 0x7fe0000000000000}, {1 << 63, 960, 64, 0x7fe0000000000000}, {3, 1022, 64, 0x7fe8000000000000},
		{3, -1, 32, 0x3fc00000}, {3 << 62, -63, 32, 0x3fc00000}, {1, 0, 32, 0x3f800000},
		{1, -149, 32, 1}, {1 << 63, -149 - 63, 32, 1}, {1<<23 - 1, -149, 32, 1<<23 - 1}, {1<<63 - 1<<40, -189, 32, 1<<23 - 1}, {1 << 23, -149, 32, 1 << 23}, {1, -126, 32, 1 << 23}, {1 << 63, -189, 32, 1 << 23}, {1, -127, 32, 1 << 22},
		{1<<24 - 1, 104, 32, 0x7f7fffff}, {1<<64 - 1<<40, 64, 32, 0x7f7fffff}, {1, 127, 32, 0x7f000000}, {1 << 63, 64, 32, 0x7f000000}, {3, 126, 32, 0x7f400000},
	} {
		wantPack(t, api.Float{Class: fine, Mant: c.mant, Exp: c.exp}, c.size, c.want, nil)
		wantPack(t, api.Float{Neg: true, Class: fine, Mant: c.mant, Exp: c.exp}, c.size, c.want|sign(c.size), nil)
	}
}

func TestBT1PackOutOfRange(t *testing.T) {
	for _, c := range []struct {
		mant uint64
		exp  int
		size int
	}{
		{1, 1024, 64}, {1 << 53, 971, 64}, {1 << 52, 972, 64}, {1<<54 - 1, 970, 64}, {1<<53 + 1, 0, 64}, {1<<54 - 1, 0, 64}, {1<<64 - 1, 0, 64}, {1<<64 - 1<<10, 0, 64}, {1<<64 - 1<<10, 960, 64}, {1 << 63, 961, 64}, {1 << 63, 1024, 64}, {1 << 63, 5000, 64},
		{1, -1075, 64}, {3, -1075, 64}, {1<<53 - 1, -1075, 64}, {1 << 62, -1137, 64}, {1 << 63, -1138, 64}, {1<<63 + 1, -1137, 64}, {1<<63 | 1<<62, -1137, 64}, {1<<64 - 1<<10, -1085, 64},
		{1, 128, 32}, {1 << 24, 104, 32}, {1 << 23, 105, 32}, {1<<25 - 1, 103, 32}, {1<<24 + 1, 0, 32}, {1<<25 - 1, 0, 32}, {1<<53 - 1, 0, 32}, {1<<64 - 1, 0, 32}, {1<<64 - 1<<39, 64, 32}, {1 << 63, 65, 32},
		{1, -150, 32}, {3, -150, 32}, {1<<24 - 1, -150, 32}, {1 << 62, -212, 32}, {1 << 63, -213, 32}, {1<<63 | 1<<62, -212, 32},
	} {
		wantPack(t, api.Float{Class: fine, Mant: c.mant, Exp: c.exp}, c.size, 0, api.ErrRange)
		wantPack(t, api.Float{Neg: true, Class: fine, Mant: c.mant, Exp: c.exp}, c.size, 0, api.ErrRange)
	}
	// Exponents with which sums wrap round.
	exps := []int{math.MinInt32, -1 << 32, -1<<32 - 100, math.MaxInt32, 1 << 32, 1<<32 - 52, 1<<32 + 52, 1 << 52, -1 << 52}
	for near := range 2500 {
		exps = append(exps, math.MinInt+near, math.MaxInt-near)
	}
	for _, size := range sizes {
		for _, exp := range exps {
			for _, mant := range []uint64{1, 2, 3, 1 << 23, 1 << 24, 1 << 52, 1 << 53, 1 << 62, 1 << 63, 1<<64 - 1, 1<<64 - 1<<11} {
				wantPack(t, api.Float{Class: fine, Mant: mant, Exp: exp}, size, 0, api.ErrRange)
				wantPack(t, api.Float{Neg: true, Class: fine, Mant: mant, Exp: exp}, size, 0, api.ErrRange)
			}
		}
	}
}

func TestBT1PackOfNoParts(t *testing.T) {
	for _, size := range sizes {
		for _, class := range []int{0, -1, -2, 5, 6, 1 << 32, 1<<32 + 1, 1<<32 + 2, 256 + 2, math.MinInt, math.MinInt + 2, math.MaxInt} {
			for _, mant := range []uint64{0, 1, 1<<64 - 1} {
				for _, exp := range []int{0, 5000, math.MinInt, math.MaxInt} {
					wantPack(t, api.Float{Class: class, Mant: mant, Exp: exp}, size, 0, api.ErrArg)
					wantPack(t, api.Float{Neg: true, Class: class, Mant: mant, Exp: exp}, size, 0, api.ErrArg)
				}
			}
		}
		// A mantissa 0 is told ahead of an exponent that no float has.
		for _, exp := range []int{0, 1, -1, -149, -150, -1074, -1075, 104, 105, 971, 972, 5000, -5000, math.MinInt, math.MaxInt} {
			wantPack(t, api.Float{Class: fine, Exp: exp}, size, 0, api.ErrArg)
			wantPack(t, api.Float{Neg: true, Class: fine, Exp: exp}, size, 0, api.ErrArg)
		}
	}
}

// Of what is not fine neither mantissa nor exponent is looked at; of a NaN the sign is not, either.
func TestBT1PackOfWhatIsNotFine(t *testing.T) {
	for _, mant := range []uint64{0, 1, 1 << 22, 1 << 23, 1 << 51, 1 << 52, 1<<64 - 1} {
		for _, exp := range []int{0, 1, -1, 104, 971, 5000, -5000, math.MinInt, math.MaxInt} {
			for _, c := range []struct {
				class        int
				neg          bool
				small, great uint64
			}{
				{api.ClassZero, false, 0, 0}, {api.ClassZero, true, 1 << 31, 1 << 63},
				{api.ClassInf, false, 0x7f800000, 0x7ff0000000000000}, {api.ClassInf, true, 0xff800000, 0xfff0000000000000},
				{api.ClassNaN, false, 0x7fc00000, 0x7ff8000000000000}, {api.ClassNaN, true, 0x7fc00000, 0x7ff8000000000000},
			} {
				f := api.Float{Neg: c.neg, Class: c.class, Mant: mant, Exp: exp}
				wantPack(t, f, 32, c.small, nil)
				wantPack(t, f, 64, c.great, nil)
			}
		}
	}
}

// Mantissas of every length, with noughts at their end and without, against all exponents about both ends of both sizes.
func TestBT1PackAllOver(t *testing.T) {
	var exps []int
	for _, at := range []int{-1138, -1086, -1074, -1022, -213, -190, -149, -126, -63, 0, 64, 104, 127, 961, 971, 1023} {
		for near := -12; near <= 12; near++ {
			exps = append(exps, at+near)
		}
	}
	for _, exp := range exps {
		for length := 1; length <= 64; length++ {
			top := uint64(1) << (length - 1)
			all := top | (top - 1)
			for _, mant := range []uint64{top, all, top | 1, top | top>>1, top | top>>22, top | top>>23, top | top>>24, top | top>>51, top | top>>52, top | top>>53, all &^ (all >> 23), all &^ (all >> 24), all &^ (all >> 25), all &^ (all >> 52), all &^ (all >> 53), all &^ (all >> 54)} {
				if bits.Len64(mant) != length {
					t.Fatalf("%#x has not %d bits", mant, length)
				}
				wantFine(t, mant, exp)
			}
		}
	}
}

// The same value with ever more noughts behind its mantissa is the same float.
func TestBT1PackOfLikeValues(t *testing.T) {
	for _, size := range sizes {
		for _, b := range both(size) {
			f, err := Unpack(b, size)
			if err != nil || f.Class != fine {
				continue
			}
			if f.Mant == 0 {
				t.Fatalf("Unpack(%#x, %d): %v", b, size, f)
			}
			for f.Mant%2 == 0 {
				f.Mant, f.Exp = f.Mant/2, f.Exp+1
			}
			for {
				wantPack(t, f, size, b, nil)
				if f.Mant >= 1<<63 {
					break
				}
				f.Mant, f.Exp = f.Mant*2, f.Exp-1
			}
		}
	}
}

func TestBT5PackOfUnpack(t *testing.T) {
	for _, size := range sizes {
		canonical, _ := NaN(size)
		many(size, func(bits uint64) {
			f, err := Unpack(bits, size)
			if err != nil {
				t.Errorf("Unpack(%#x, %d): %v", bits, size, err)
			}
			want := bits
			if f.Class == api.ClassNaN {
				want = canonical
			}
			wantPack(t, f, size, want, nil)
		})
	}
}
