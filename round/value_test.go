package round

import (
	"math/big"
	"slices"
	"testing"

	"numeral/api"
	"numeral/nat"
)

// isFraction asks that n by d is x, and that both share no divisor.
func isFraction(t *testing.T, call string, bits uint64, size int, n, d nat.Nat, x *big.Rat) {
	t.Helper()
	// A Rat has no divisor that both sides share, and 0 is 0 by 1.
	if nat.Valid(n) != nil || nat.Valid(d) != nil || great(n).Cmp(x.Num()) != 0 || great(d).Cmp(x.Denom()) != 0 {
		t.Errorf("%s(%#x, %d): %s by %s, want %s by %s", call, bits, size, told(n), told(d), told(of(x.Num())), told(of(x.Denom())))
	}
}

func wantValue(t *testing.T, f format, bits uint64) {
	t.Helper()
	for _, neg := range signs {
		sign, n, d, err := Value(f.signed(bits, neg), f.size)
		if sign != neg || err != nil {
			t.Errorf("Value(%#x, %d): sign %v, %v", f.signed(bits, neg), f.size, sign, err)
		}
		isFraction(t, "Value", f.signed(bits, neg), f.size, n, d, f.value(bits))
	}
}

func wantHalf(t *testing.T, f format, bits uint64) {
	t.Helper()
	n, d, err := Half(bits, f.size)
	if err != nil {
		t.Errorf("Half(%#x, %d): %v", bits, f.size, err)
	}
	half := new(big.Rat).Add(f.value(bits), f.value(bits+1))
	isFraction(t, "Half", bits, f.size, n, d, shifted(half, -1))
}

func TestRN3Values(t *testing.T) {
	for _, c := range []struct {
		bits uint64
		size int
		neg  bool
		n, d nat.Nat
	}{
		{0xbff8000000000000, 64, true, nat.Nat{3}, nat.Nat{2}},
		{0, 64, false, nil, nat.Nat{1}}, {1 << 63, 64, true, nil, nat.Nat{1}}, {0, 32, false, nil, nat.Nat{1}}, {1 << 31, 32, true, nil, nat.Nat{1}},
		{0x3ff0000000000000, 64, false, nat.Nat{1}, nat.Nat{1}}, {0x4024000000000000, 64, false, nat.Nat{10}, nat.Nat{1}}, {0x43f0000000000000, 64, false, nat.Nat{0, 1}, nat.Nat{1}},
		{0x3f000000, 32, false, nat.Nat{1}, nat.Nat{2}}, {0xc1200000, 32, true, nat.Nat{10}, nat.Nat{1}},
		{1, 32, false, nat.Nat{1}, nat.Nat{0, 0, 1 << 21}}, {2, 32, false, nat.Nat{1}, nat.Nat{0, 0, 1 << 20}}, {3, 32, false, nat.Nat{3}, nat.Nat{0, 0, 1 << 21}},
		{0x7f7fffff, 32, false, nat.Nat{0, 1<<64 - 1<<40}, nat.Nat{1}},
	} {
		neg, n, d, err := Value(c.bits, c.size)
		if neg != c.neg || !slices.Equal(n, c.n) || !slices.Equal(d, c.d) || err != nil {
			t.Errorf("Value(%#x, %d): %v, %v, %v, %v", c.bits, c.size, neg, n, d, err)
		}
	}
}

func TestRN3Halves(t *testing.T) {
	least := make(nat.Nat, 17)
	least[16] = 1 << (1075 - 1024)
	for _, c := range []struct {
		bits uint64
		size int
		n, d nat.Nat
	}{
		{0, 64, nat.Nat{1}, least}, {1, 64, nat.Nat{3}, least}, {0, 32, nat.Nat{1}, nat.Nat{0, 0, 1 << 22}}, {2, 32, nat.Nat{5}, nat.Nat{0, 0, 1 << 22}},
		{0x3ff0000000000000, 64, nat.Nat{1<<53 + 1}, nat.Nat{1 << 53}}, {0x3fefffffffffffff, 64, nat.Nat{1<<54 - 1}, nat.Nat{1 << 54}},
		{0x4340000000000000, 64, nat.Nat{1<<53 + 1}, nat.Nat{1}}, {0x433fffffffffffff, 64, nat.Nat{1<<54 - 1}, nat.Nat{2}},
		{0x7f7fffff, 32, nat.Nat{0, 1<<64 - 1<<39}, nat.Nat{1}},
	} {
		n, d, err := Half(c.bits, c.size)
		if !slices.Equal(n, c.n) || !slices.Equal(d, c.d) || err != nil {
			t.Errorf("Half(%#x, %d): %v, %v, %v", c.bits, c.size, n, d, err)
		}
	}
}

func TestRN3EveryKind(t *testing.T) {
	for _, f := range formats {
		for _, bits := range f.named() {
			wantValue(t, f, bits)
			wantHalf(t, f, bits)
		}
		hidden := uint64(1) << (f.places - 1)
		// The places where the exponent changes, all of them.
		for bits := uint64(0); bits < f.inf(); bits += hidden {
			for near := range uint64(3) {
				if near > 0 || bits > 0 {
					wantValue(t, f, bits+near-1)
					wantHalf(t, f, bits+near-1)
				}
			}
		}
		f.spread(20000, func(bits uint64) {
			wantValue(t, f, bits)
			wantHalf(t, f, bits)
		})
	}
}

func wantNothing(t *testing.T, bits uint64, size int, want error) {
	t.Helper()
	neg, n, d, err := Value(bits, size)
	if neg || len(n) > 0 || len(d) > 0 || err != want {
		t.Errorf("Value(%#x, %d): %v, %v, %v, %v, want %v", bits, size, neg, n, d, err, want)
	}
	wantNoHalf(t, bits, size, want)
}

func wantNoHalf(t *testing.T, bits uint64, size int, want error) {
	t.Helper()
	n, d, err := Half(bits, size)
	if len(n) > 0 || len(d) > 0 || err != want {
		t.Errorf("Half(%#x, %d): %v, %v, %v, want %v", bits, size, n, d, err, want)
	}
}

func TestRN3Errors(t *testing.T) {
	for _, f := range formats {
		for _, behind := range []uint64{0, 1, 2, 1 << (f.places - 2), 1<<(f.places-2) - 1, 1<<(f.places-2) + 1, 1<<(f.places-1) - 1} {
			for _, neg := range signs {
				wantNothing(t, f.signed(f.inf()+behind, neg), f.size, api.ErrArg)
			}
		}
		for _, bits := range f.named() {
			wantNoHalf(t, bits|f.sign(), f.size, api.ErrArg)
		}
	}
	for _, high := range []uint64{1 << 32, 1 << 63, maxWord &^ (1<<32 - 1)} {
		for _, low := range []uint64{0, 1, 0x3f800000, 0x7f7fffff, 0x7f800000, 0x7fc00000, 0x80000000, 0xffffffff} {
			wantNothing(t, high|low, 32, api.ErrArg)
		}
	}
	for _, size := range noSizes {
		for _, bits := range []uint64{0, 1, 0x3f800000, 0x7f800000, 0x7fc00000, 1 << 31, 1 << 32, 0x7ff0000000000000, 0x7ff8000000000000, 1 << 63, maxWord} {
			wantNothing(t, bits, size, api.ErrBitSize)
		}
	}
}

// An answer is new memory every time: what is done to one is not seen in the next.
func TestRN3NewMemory(t *testing.T) {
	for _, f := range formats {
		for _, bits := range []uint64{0, 1, f.inf() / 2, f.inf() - 1} {
			for range 2 {
				_, n, d, _ := Value(bits, f.size)
				low, high, _ := Half(bits, f.size)
				for _, a := range []nat.Nat{n, d, low, high} {
					full := a[:cap(a)]
					for i := range full {
						full[i] = maxWord
					}
				}
			}
			wantValue(t, f, bits)
			wantHalf(t, f, bits)
		}
	}
}
