package bits

import (
	"math"
	"testing"

	"numeral/api"
)

const (
	nan32 = 0x7fc00000
	nan64 = 0x7ff8000000000000
)

func wantWiden(t *testing.T, bits, want uint64) {
	t.Helper()
	if wide, err := Widen(bits); wide != want || err != nil {
		t.Errorf("Widen(%#x): %#x, %v, want %#x", bits, wide, err, want)
	}
}

func wantNarrow(t *testing.T, bits, want uint64, same bool) {
	t.Helper()
	if near, told, err := Narrow(bits); near != want || told != same || err != nil {
		t.Errorf("Narrow(%#x): %#x, %v, %v, want %#x, %v", bits, near, told, err, want, same)
	}
}

func TestBT4Widen(t *testing.T) {
	for _, c := range []struct{ bits, want uint64 }{
		{0, 0}, {1, 0x36a0000000000000}, {2, 0x36b0000000000000}, {3, 0x36b8000000000000}, {0x400000, 0x3800000000000000}, {0x7fffff, 0x380fffffc0000000}, {0x800000, 0x3810000000000000}, {0x800001, 0x3810000020000000}, {0x3f800000, 0x3ff0000000000000}, {0x3dcccccd, 0x3fb99999a0000000}, {0x7f7fffff, 0x47efffffe0000000}, {0x7f800000, 0x7ff0000000000000},
	} {
		wantWiden(t, c.bits, c.want)
		wantWiden(t, c.bits|1<<31, c.want|1<<63)
		wantNarrow(t, c.want, c.bits, true)
		wantNarrow(t, c.want|1<<63, c.bits|1<<31, true)
	}
	for _, bits := range []uint64{0x7f800001, 0x7fa00000, 0x7fbfffff, 0x7fc00000, 0x7fc00001, 0x7fffffff, 0xff800001, 0xffbfffff, 0xffc00000, 0xffffffff} {
		wantWiden(t, bits, nan64)
	}
	for _, bits := range []uint64{1 << 32, 1<<32 | 0x3f800000, 1 << 63, nan64, 0x3ff0000000000000, 1<<64 - 1} {
		wide, err := Widen(bits)
		wantOnly(t, "Widen", wide, err, api.ErrArg)
	}
}

func TestBT4Narrow(t *testing.T) {
	for _, c := range []struct {
		bits, want uint64
		same       bool
	}{
		{0x3fb999999999999a, 0x3dcccccd, false},
		{0, 0, true}, {0x3ff0000000000000, 0x3f800000, true}, {0x7ff0000000000000, 0x7f800000, true},
		// Half way between two, the lower one even, and one unit beside it.
		{0x3ff0000010000000, 0x3f800000, false}, {0x3ff000000fffffff, 0x3f800000, false}, {0x3ff0000010000001, 0x3f800001, false}, {0x3ff0000020000000, 0x3f800001, true}, {0x3ff0000000000001, 0x3f800000, false}, {0x3ff000001fffffff, 0x3f800001, false},
		// Half way between two, the upper one even.
		{0x3ff0000030000000, 0x3f800002, false}, {0x3ff000002fffffff, 0x3f800001, false}, {0x3ff0000030000001, 0x3f800002, false},
		// Up to the next exponent.
		{0x3fffffffe0000000, 0x3fffffff, true}, {0x3fffffffefffffff, 0x3fffffff, false}, {0x3ffffffff0000000, 0x40000000, false}, {0x3fffffffffffffff, 0x40000000, false},
		// The greatest, and half a unit beyond it.
		{0x47efffffe0000000, 0x7f7fffff, true}, {0x47efffffe0000001, 0x7f7fffff, false}, {0x47efffffdfffffff, 0x7f7fffff, false}, {0x47efffffefffffff, 0x7f7fffff, false}, {0x47effffff0000000, 0x7f800000, false}, {0x47effffff0000001, 0x7f800000, false}, {0x47efffffffffffff, 0x7f800000, false}, {0x47f0000000000000, 0x7f800000, false}, {0x47f0000000000001, 0x7f800000, false}, {0x4800000000000000, 0x7f800000, false}, {0x7fefffffffffffff, 0x7f800000, false}, {0x47efffffd0000000, 0x7f7ffffe, false},
		// Without a hidden bit, and up to the least one with it.
		{0x3810000000000000, 0x800000, true}, {0x380fffffffffffff, 0x800000, false}, {0x380fffffe0000000, 0x800000, false}, {0x380fffffdfffffff, 0x7fffff, false}, {0x380fffffc0000000, 0x7fffff, true}, {0x380fffffa0000000, 0x7ffffe, false}, {0x380fffffa0000001, 0x7fffff, false}, {0x380fffff9fffffff, 0x7ffffe, false}, {0x3810000010000000, 0x800000, false}, {0x3810000010000001, 0x800001, false}, {0x3810000030000000, 0x800002, false},
		// About the least ones.
		{0x36a0000000000000, 1, true}, {0x36a0000000000001, 1, false}, {0x369fffffffffffff, 1, false}, {0x36a8000000000000, 2, false}, {0x36a7ffffffffffff, 1, false}, {0x36a8000000000001, 2, false}, {0x36b4000000000000, 2, false}, {0x36b4000000000001, 3, false}, {0x36b3ffffffffffff, 2, false},
		// Half of the least, and beside it.
		{0x3690000000000000, 0, false}, {0x3690000000000001, 1, false}, {0x368fffffffffffff, 0, false}, {0x3680000000000000, 0, false}, {0x3698000000000000, 1, false},
		// Far below.
		{1, 0, false}, {2, 0, false}, {1<<52 - 1, 0, false}, {1 << 52, 0, false}, {1<<53 - 1, 0, false}, {0x35f0000000000000, 0, false}, {0x361fffffffffffff, 0, false}, {0x362fffffffffffff, 0, false},
	} {
		wantNarrow(t, c.bits, c.want, c.same)
		wantNarrow(t, c.bits|1<<63, c.want|1<<31, c.same)
	}
	for _, bits := range []uint64{0x7ff0000000000001, 0x7ff4000000000000, 0x7ff7ffffffffffff, nan64, 0x7ff8000000000001, 0x7fffffffffffffff, 0xfff0000000000001, 0xfff7ffffffffffff, 0xfff8000000000000, 0xffffffffffffffff} {
		wantNarrow(t, bits, nan32, false)
	}
}

// narrow is what BT4 says of a float, by the machine's own conversion.
func narrow(bits uint64) (uint64, bool) {
	v := math.Float64frombits(bits)
	if v != v {
		return nan32, false
	}
	return uint64(math.Float32bits(float32(v))), float64(float32(v)) == v
}

func TestBT4NarrowAllOver(t *testing.T) {
	try := func(bits uint64) {
		want, same := narrow(bits)
		wantNarrow(t, bits, want, same)
	}
	many(64, try)
	// Every exponent from far below the least float of 32 bits to far above the greatest, with mantissas about the half way of each number of bits that may be dropped.
	for exponent := uint64(1023 - 230); exponent < 1023+140; exponent++ {
		for drop := range 53 {
			for _, head := range []uint64{0, 1, 2, 3} {
				for near := range uint64(5) {
					mant := head<<drop>>1 + near - 2
					try(exponent<<52 | mant&(1<<52-1))
					try(1<<63 | exponent<<52 | ^mant&(1<<52-1))
				}
			}
		}
	}
}

// Values half way between two floats of 32 bits that are neighbours, and one unit beside them.
func TestBT4NarrowHalfWay(t *testing.T) {
	many(32, func(bits uint64) {
		low := bits & (1<<31 - 1)
		if low >= 0x7f7fffff {
			return
		}
		from, to := value(low, 32), value(low+1, 32)
		middle := math.Float64bits((from + to) / 2)
		even := low + low%2
		minus := bits & (1 << 31)
		wantNarrow(t, minus<<32|middle, minus|even, false)
		wantNarrow(t, minus<<32|(middle-1), minus|low, false)
		wantNarrow(t, minus<<32|(middle+1), minus|(low+1), false)
	})
}

func TestBT5NarrowOfWiden(t *testing.T) {
	many(32, func(bits uint64) {
		if classOf(bits, 32) == api.ClassNaN {
			wantWiden(t, bits, nan64)
			return
		}
		wide := math.Float64bits(value(bits, 32))
		wantWiden(t, bits, wide)
		wantNarrow(t, wide, bits, true)
	})
}
