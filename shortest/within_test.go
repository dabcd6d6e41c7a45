package shortest

import (
	"math"
	"math/big"
	"testing"

	"numeral/api"
)

func TestSH2Within(t *testing.T) {
	for _, c := range []struct {
		float   uint64
		size, n int
		digits  string
		point   int
	}{
		{0x3fd3333333333334, 64, 16, "", 0}, {0x3fd3333333333334, 64, 17, "30000000000000004", 0}, {0x3fd3333333333334, 64, 1, "", 0}, {0xbfd3333333333334, 64, 17, "30000000000000004", 0},
		{0x3fb999999999999a, 64, 1, "1", 0}, {0x3fb999999999999a, 64, 16, "1", 0}, {0x3fb999999999999a, 64, 17, "10000000000000001", 0},
		{0x3ff0000000000000, 64, 1, "1", 1}, {0x3ff0000000000000, 64, 17, "1", 1}, {0x3f800000, 32, 1, "1", 1}, {0x3f800000, 32, 17, "1", 1},
		{0x3dcccccd, 32, 8, "1", 0}, {0x3dcccccd, 32, 9, "100000001", 0}, {0x3dcccccd, 32, 17, "10000000149011612", 0},
		{1, 64, 1, "5", -323}, {1, 64, 2, "49", -323}, {1, 64, 17, "49406564584124654", -323}, {1, 32, 1, "1", -44}, {1, 32, 2, "14", -44}, {1 << 31, 32, 1, "", 0},
		{0x7fefffffffffffff, 64, 16, "", 0}, {0x7fefffffffffffff, 64, 17, "17976931348623157", 309}, {0x7f7fffff, 32, 7, "", 0}, {0x7f7fffff, 32, 8, "34028235", 39}, {0x7f7fffff, 32, 9, "340282347", 39},
		// An end of the interval, while numbers of more digits are nearer.
		{0x44b52d02c7e14af6, 64, 1, "1", 24}, {0x44b52d02c7e14af6, 64, 16, "9999999999999999", 23}, {0x44b52d02c7e14af6, 64, 17, "99999999999999992", 23}, {0x44b52d02c7e14af7, 64, 16, "", 0},
		// The nearest one is below the power of two, and out.
		{0x0060000000000000, 64, 15, "", 0}, {0x0060000000000000, 64, 16, "7120236347223045", -306}, {0x0060000000000000, 64, 17, "71202363472230444", -306},
		// Half way between two: the even one.
		{0x4a000001, 32, 7, "", 0}, {0x4a000001, 32, 8, "20971522", 7}, {0x4a000001, 32, 9, "209715225", 7}, {0x4a000003, 32, 8, "20971528", 7},
		{0x49800001, 32, 8, "10485761", 7}, {0x49800001, 32, 9, "104857612", 7}, {0x49800003, 32, 9, "104857638", 7}, {0x49800001, 32, 10, "1048576125", 7},
	} {
		refused := error(nil)
		if c.float == 1<<31 {
			refused = api.ErrArg
		}
		wantWithin(t, c.float, c.size, c.n, api.Dec{Digits: c.digits, Point: c.point}, c.digits != "", refused)
	}
}

// within is what the chapter's words say of a float and so many digits, by whole numbers: of all such numbers in the interval, where these are not too many to go through, else of those next to the value.
func (f format) within(t *testing.T, r truth, n int) (api.Dec, bool) {
	t.Helper()
	const most = 40
	sides := r.sides(n)
	if list := r.list(n, most); len(list) < most {
		if len(list) == 0 {
			return api.Dec{}, false
		}
		best := r.best(t, list, n)
		if len(sides) == 0 || r.best(t, sides, n).Cmp(best) != 0 {
			t.Errorf("of %d digits the best is %s, which is not next to the value", n, told(decimal(best, places)))
		}
		return decimal(best, places), true
	}
	return decimal(r.best(t, sides, n), places), true
}

// holdWithin asks for every count of digits, with both signs.
func (f format) holdWithin(t *testing.T, float uint64) {
	t.Helper()
	r := f.truth(float)
	_, count := r.fewest()
	for n := 1; n <= 17; n++ {
		want, ok := f.within(t, r, n)
		if ok != (n >= count) {
			t.Errorf("%#x of %d has %d digits, but with %d: %v", float, f.size, count, n, ok)
		}
		for _, float := range f.signed(float) {
			wantWithin(t, float, f.size, n, want, ok, nil)
		}
	}
}

func TestSH2EveryKind(t *testing.T) {
	for _, f := range formats {
		for i, float := range f.named() {
			// Of powers of ten and those next to them some are enough.
			if float != 0 && (i < 300 || i%7 == 0) {
				f.holdWithin(t, float)
			}
		}
		f.spread(300, func(float uint64) {
			if float != 0 {
				f.holdWithin(t, float)
			}
		})
	}
}

func TestSH2Steps(t *testing.T) {
	for _, f := range formats {
		place := 0
		f.steps(func(float uint64) {
			if place++; f.size == 32 || place%16 < 3 {
				f.holdWithin(t, float)
			}
		})
		for float := uint64(1); float < 300; float++ {
			f.holdWithin(t, float)
		}
	}
}

// Half way between two numbers with n digits: the one whose last place is even.
func TestSH2EvenOfTwo(t *testing.T) {
	for _, f := range formats {
		ties := 0
		for parts := 2; parts < 8; parts++ {
			// Floats lie two to the -parts apart here.
			from := f.one() + uint64(f.bits-1-parts)*f.hidden()
			for i := range uint64(100) {
				float := from + 2*i + 1
				r := f.truth(float)
				for n := 1; n <= 17; n++ {
					sides := r.sides(n)
					if len(sides) < 2 || r.far(sides[0]).Cmp(r.far(sides[1])) != 0 {
						continue
					}
					ties++
					want := sides[0]
					if even(sides[1], n) {
						want = sides[1]
					}
					wantWithin(t, float, f.size, n, decimal(want, places), true, nil)
				}
			}
		}
		if ties < 200 {
			t.Errorf("size %d: only %d ties", f.size, ties)
		}
	}
}

// A number with fewer digits is told where it is the nearest: short ones that floats denote exactly, and such as no longer number is nearer to.
func TestSH2FewerDigits(t *testing.T) {
	for _, f := range formats {
		fewer := 0
		for whole := uint64(1); whole < 400; whole++ {
			float := f.read(decimal(new(big.Int).SetUint64(whole), 0))
			count, err := Count(float, f.size)
			if err != nil {
				t.Fatal(err)
			}
			for n := count; n <= 17; n++ {
				wantWithin(t, float, f.size, n, decimal(new(big.Int).SetUint64(whole), 0), true, nil)
			}
			tenth := f.read(decimal(new(big.Int).SetUint64(whole), 5))
			r := f.truth(tenth)
			for n := 1; n <= 17; n++ {
				want, ok := f.within(t, r, n)
				wantWithin(t, tenth, f.size, n, want, ok, nil)
				if ok && len(want.Digits) < n {
					fewer++
				}
			}
		}
		if fewer < 400 {
			t.Errorf("size %d: only %d with fewer digits", f.size, fewer)
		}
	}
}

func TestSH2Errors(t *testing.T) {
	for _, f := range formats {
		for _, n := range []int{0, -1, 18, 19, 100, -17, 800, 1 << 32, 1<<32 + 9, 9 - 1<<32, math.MaxInt, math.MinInt} {
			for _, float := range f.named() {
				for _, float := range f.signed(float) {
					wantWithin(t, float, f.size, n, api.Dec{}, false, api.ErrArg)
				}
			}
			for _, size := range noSizes {
				wantWithin(t, f.one(), size, n, api.Dec{}, false, api.ErrBitSize)
				wantWithin(t, 0, size, n, api.Dec{}, false, api.ErrBitSize)
			}
		}
		for n := -2; n <= 20; n++ {
			for _, nought := range f.signed(0) {
				wantWithin(t, nought, f.size, n, api.Dec{}, false, api.ErrArg)
			}
		}
	}
}
