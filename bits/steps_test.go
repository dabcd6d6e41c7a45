package bits

import (
	"math"
	"testing"

	"numeral/api"
)

func wantNext(t *testing.T, bits uint64, size int, want uint64, refused error) {
	t.Helper()
	if next, err := Next(bits, size); next != want || err != refused {
		t.Errorf("Next(%#x, %d): %#x, %v, want %#x, %v", bits, size, next, err, want, refused)
	}
}

func wantPrev(t *testing.T, bits uint64, size int, want uint64, refused error) {
	t.Helper()
	if prev, err := Prev(bits, size); prev != want || err != refused {
		t.Errorf("Prev(%#x, %d): %#x, %v, want %#x, %v", bits, size, prev, err, want, refused)
	}
}

func wantCompare(t *testing.T, a, b uint64, size, want int) {
	t.Helper()
	if n, err := Compare(a, b, size); n != want || err != nil {
		t.Errorf("Compare(%#x, %#x, %d): %d, %v, want %d", a, b, size, n, err, want)
	}
}

// Steps from the nought, across the places where the exponent changes, and to the infinity: there and back.
func TestBT3Steps(t *testing.T) {
	for _, c := range []struct {
		size     int
		from, to uint64
	}{
		{64, 0, 1}, {64, 1, 2}, {64, 1<<52 - 1, 1 << 52}, {64, 1 << 52, 1<<52 + 1}, {64, 1<<53 - 1, 1 << 53}, {64, 0x3fefffffffffffff, 0x3ff0000000000000}, {64, 0x3ff0000000000000, 0x3ff0000000000001}, {64, 0x7fdfffffffffffff, 0x7fe0000000000000}, {64, 0x7feffffffffffffe, 0x7fefffffffffffff}, {64, 0x7fefffffffffffff, 0x7ff0000000000000}, {64, 1<<32 - 1, 1 << 32},
		{32, 0, 1}, {32, 1, 2}, {32, 1<<23 - 1, 1 << 23}, {32, 1 << 23, 1<<23 + 1}, {32, 1<<24 - 1, 1 << 24}, {32, 0x3f7fffff, 0x3f800000}, {32, 0x3f800000, 0x3f800001}, {32, 0x7effffff, 0x7f000000}, {32, 0x7f7ffffe, 0x7f7fffff}, {32, 0x7f7fffff, 0x7f800000},
	} {
		minus := sign(c.size)
		wantNext(t, c.from, c.size, c.to, nil)
		wantNext(t, c.from|minus, c.size, c.to|minus, nil)
		wantPrev(t, c.to, c.size, c.from, nil)
		wantPrev(t, c.to|minus, c.size, c.from|minus, nil)
	}
}

func TestBT3StepsRefused(t *testing.T) {
	for _, size := range sizes {
		minus := sign(size)
		infinity, _ := Inf(false, size)
		for _, neg := range []uint64{0, minus} {
			wantNext(t, infinity|neg, size, 0, api.ErrRange)
			wantPrev(t, neg, size, 0, api.ErrRange)
		}
		for _, b := range both(size) {
			if classOf(b, size) == api.ClassNaN {
				wantNext(t, b, size, 0, api.ErrArg)
				wantPrev(t, b, size, 0, api.ErrArg)
			}
		}
	}
}

// next is the next float away from 0, by the library.
func next(bits uint64, size int) uint64 {
	end := math.Copysign(math.Inf(1), value(bits&sign(size)<<(64-size), 64))
	if size == 32 {
		return uint64(math.Float32bits(math.Nextafter32(math.Float32frombits(uint32(bits)), float32(end))))
	}
	return math.Float64bits(math.Nextafter(math.Float64frombits(bits), end))
}

func TestBT5PrevOfNext(t *testing.T) {
	for _, size := range sizes {
		many(size, func(bits uint64) {
			class := classOf(bits, size)
			if class == api.ClassZero || class == api.ClassFine {
				after := next(bits, size)
				if after == bits {
					t.Fatalf("%#x is behind itself", bits)
				}
				wantNext(t, bits, size, after, nil)
				wantPrev(t, after, size, bits, nil)
			}
			if class == api.ClassFine || class == api.ClassInf {
				before, err := Prev(bits, size)
				if err != nil {
					t.Errorf("Prev(%#x, %d): %v", bits, size, err)
				}
				wantNext(t, before, size, bits, nil)
			}
		})
	}
}

func TestBT3Compare(t *testing.T) {
	const minus = 1 << 63
	for _, c := range []struct {
		a, b uint64
		want int
	}{
		{0, 0, 0}, {0, minus, 0}, {minus, 0, 0}, {minus, minus, 0}, {0, 1, -1}, {minus, 1, -1}, {0, minus | 1, 1}, {minus, minus | 1, 1}, {1, minus, 1}, {minus | 1, 0, -1}, {1, minus | 1, 1}, {minus | 1, 1, -1}, {minus | 1, minus | 2, 1}, {minus | 2, minus | 1, -1},
		{0x3ff0000000000000, 0x3ff8000000000000, -1}, {0xbff0000000000000, 0xbff8000000000000, 1}, {0x7ff0000000000000, 0x7fefffffffffffff, 1}, {0xfff0000000000000, 0xffefffffffffffff, -1}, {0x7ff0000000000000, 0x7ff0000000000000, 0}, {0x7ff0000000000000, 0xfff0000000000000, 1}, {0xfff0000000000000, 0xfff0000000000000, 0},
		{0x7ff8000000000000, 0x7ff8000000000000, 2}, {0x7ff8000000000000, 0, 2}, {0, 0xfff0000000000001, 2}, {0x7ff0000000000001, 0xfff0000000000000, 2}, {0x7ff0000000000000, 0xffffffffffffffff, 2},
	} {
		wantCompare(t, c.a, c.b, 64, c.want)
	}
}

// order is what BT3 says of two floats, by the machine's own comparisons.
func order(a, b uint64, size int) int {
	switch v, w := value(a, size), value(b, size); {
	case v < w:
		return -1
	case v == w:
		return 0
	case v > w:
		return 1
	}
	return 2
}

func TestBT3CompareEveryTwo(t *testing.T) {
	for _, size := range sizes {
		for _, a := range both(size) {
			for _, b := range both(size) {
				wantCompare(t, a, b, size, order(a, b, size))
			}
		}
		last := uint64(0)
		many(size, func(bits uint64) {
			wantCompare(t, last, bits, size, order(last, bits, size))
			wantCompare(t, bits, last, size, order(bits, last, size))
			wantCompare(t, bits, bits^sign(size), size, order(bits, bits^sign(size), size))
			last = bits
		})
	}
}
