package compare

import (
	"strings"
	"testing"

	"numeral/api"
)

func TestCO1Named(t *testing.T) {
	for _, c := range []struct {
		d          api.Dec
		float      uint64
		size       int
		with, half int
	}{
		{api.Dec{Digits: "1"}, 0x3fb999999999999a, 64, -1, -1},
		{api.Dec{Digits: "1"}, 0x3fb9999999999999, 64, 1, 1},
		{api.Dec{Digits: "1"}, 0x3dcccccd, 32, -1, -1},
		{api.Dec{Digits: "1"}, 0x3dcccccc, 32, 1, 1},
		{api.Dec{Digits: "5"}, 0x3fe0000000000000, 64, 0, -1},
		{api.Dec{Digits: "5", Cut: true}, 0x3fe0000000000000, 64, 1, -1},
		{api.Dec{Digits: "50", Cut: true}, 0x3f000000, 32, 1, -1},
		{api.Dec{Digits: "4", Cut: true}, 0x3f000000, 32, -1, -1},
		{api.Dec{Digits: "9007199254740993", Point: 16}, 0x4340000000000000, 64, 1, 0},
		{api.Dec{Digits: "9007199254740993", Point: 16, Cut: true}, 0x4340000000000000, 64, 1, 1},
		{api.Dec{Digits: "9007199254740992", Point: 16}, 0x4340000000000000, 64, 0, -1},
		{api.Dec{Digits: "9007199254740992", Point: 16, Cut: true}, 0x4340000000000000, 64, 1, -1},
		{api.Dec{Digits: "16777217", Point: 8}, 0x4b800000, 32, 1, 0},
		{api.Dec{Digits: "1", Point: 1}, 0x3f800000, 32, 0, -1},
		{api.Dec{Digits: "100000005960464477539062", Point: 1, Cut: true}, 0x3f800000, 32, 1, -1},
		{api.Dec{Digits: "1000000059604644775390625", Point: 1}, 0x3f800000, 32, 1, 0},
		{api.Dec{Digits: "1000000059604644775390625", Point: 1, Cut: true}, 0x3f800000, 32, 1, 1},
		{api.Dec{Digits: "1000000059604644775390626", Point: 1}, 0x3f800000, 32, 1, 1},
		{api.Dec{}, 0, 64, 0, -1},
		{api.Dec{}, 1, 64, -1, -1},
		{api.Dec{}, 0, 32, 0, -1},
		{api.Dec{}, 0x7f7fffff, 32, -1, -1},
		{api.Dec{Digits: "24", Point: -323}, 0, 64, 1, -1},
		{api.Dec{Digits: "25", Point: -323}, 0, 64, 1, 1},
		{api.Dec{Digits: "49", Point: -323}, 1, 64, -1, -1},
		{api.Dec{Digits: "5", Point: -323}, 1, 64, 1, -1},
		{api.Dec{Digits: "17976931348623157", Point: 309}, 0x7fefffffffffffff, 64, -1, -1},
		{api.Dec{Digits: "17976931348623158", Point: 309}, 0x7fefffffffffffff, 64, 1, -1},
		{api.Dec{Digits: "17976931348623159", Point: 309}, 0x7fefffffffffffff, 64, 1, 1},
	} {
		wantWith(t, c.d, c.float, c.size, c.with, nil)
		wantHalf(t, c.d, c.float, c.size, c.half, nil)
	}
}

// Decimals that are a float's value, or its half way place, and those next to them, against that float and the next ones to both sides.
func TestCO1About(t *testing.T) {
	for _, f := range formats {
		for _, float := range f.named() {
			for _, d := range append(f.value(float).about(), f.half(float).about()...) {
				f.wantOrder(t, d, float)
				if float > 0 {
					f.wantOrder(t, d, float-1)
				}
				if float < f.most() {
					f.wantOrder(t, d, float+1)
				}
			}
		}
	}
}

func TestCO1Spread(t *testing.T) {
	c := chance(2)
	for _, f := range formats {
		f.spread(300, func(float uint64) {
			x := f.value(float)
			if c.word()%2 == 0 {
				x = f.half(float)
			}
			for _, d := range x.about() {
				f.wantOrder(t, d, float)
			}
		})
		for range 3000 {
			f.wantOrder(t, c.decimal(-330, 315), c.word()%f.inf())
			f.wantOrder(t, c.decimal(-50, 45), c.word()%f.inf())
		}
	}
}

// A decimal's point, where it is far out, decides alone: but above 0 it is, however small.
func TestCO1FarPoints(t *testing.T) {
	for _, f := range formats {
		for _, digits := range []string{"1", "9", "10000000000000000000001", strings.Repeat("9", api.MaxDigits), "1" + strings.Repeat("0", api.MaxDigits-2) + "1"} {
			for _, point := range farPoints {
				for _, cut := range []bool{false, true} {
					d := api.Dec{Digits: digits, Point: point, Cut: cut}
					side := 1
					if point < 0 {
						side = -1
					}
					wantWith(t, d, 0, f.size, 1, nil)
					wantHalf(t, d, 0, f.size, side, nil)
					for _, float := range []uint64{1, 2, f.hidden() - 1, f.hidden(), f.one(), f.most() - 1, f.most()} {
						wantWith(t, d, float, f.size, side, nil)
						wantHalf(t, d, float, f.size, side, nil)
					}
				}
			}
		}
	}
}

// Points about both ends of the floats, where digits still decide.
func TestCO1NearPoints(t *testing.T) {
	for _, f := range formats {
		for point := -327; point <= 313; point++ {
			for _, digits := range []string{"1", "9", strings.Repeat("9", api.MaxDigits)} {
				d := api.Dec{Digits: digits, Point: point, Cut: point%2 == 0}
				for _, float := range []uint64{0, 1, f.hidden(), f.most()} {
					f.wantOrder(t, d, float)
				}
			}
		}
	}
}

// The errors come in this order: the size's, all others; beside each of them nothing is told.
func TestCO1Errors(t *testing.T) {
	hold := func(d api.Dec, float uint64, size int, refused error) {
		t.Helper()
		wantWith(t, d, float, size, 0, refused)
		wantHalf(t, d, float, size, 0, refused)
	}
	for _, size := range noSizes {
		for _, d := range append(neverDecimals(), someDecimals()...) {
			for _, float := range []uint64{0, 1, 0x3f800000, 1 << 31, 1 << 32, 0x7ff0000000000000, 0x7ff8000000000000, maxWord} {
				hold(d, float, size, api.ErrBitSize)
			}
		}
	}
	for _, f := range formats {
		for _, d := range neverDecimals() {
			for _, float := range append(f.named(), f.noFloats()...) {
				hold(d, float, f.size, api.ErrArg)
			}
			hold(d, f.inf(), f.size, api.ErrArg)
		}
		for _, d := range someDecimals() {
			for _, float := range append(f.noFloats(), f.inf()) {
				hold(d, float, f.size, api.ErrArg)
			}
		}
	}
}

// noFloats are bits that are no guess: above the size's, with the sign set, NaNs.
func (f format) noFloats() []uint64 {
	list := []uint64{f.inf() + 1, f.inf() + f.hidden()/2, f.inf() + f.hidden()/2 + 1, f.inf() + f.hidden() - 1, f.inf() + f.sign(), f.inf() + f.sign() + 1, f.sign()*2 - 1}
	for _, float := range f.named() {
		list = append(list, float|f.sign())
	}
	if f.size == 32 {
		for _, low := range []uint64{0, 1, f.one(), f.most(), f.inf(), f.sign()} {
			list = append(list, 1<<32|low, 1<<63|low)
		}
		list = append(list, maxWord, 0x3ff0000000000000)
	}
	return list
}
