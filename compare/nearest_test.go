package compare

import (
	"strings"
	"testing"

	"numeral/api"
)

func TestCO2Named(t *testing.T) {
	for _, c := range []struct {
		d       api.Dec
		size    int
		want    uint64
		refused error
	}{
		{api.Dec{Digits: "9007199254740993", Point: 16}, 64, 0x4340000000000000, nil},
		{api.Dec{Digits: "9007199254740993", Point: 16, Cut: true}, 64, 0x4340000000000001, nil},
		{api.Dec{Digits: "9007199254740995", Point: 16}, 64, 0x4340000000000002, nil},
		{api.Dec{Digits: "9007199254740994", Point: 16, Cut: true}, 64, 0x4340000000000001, nil},
		{api.Dec{Digits: "90071992547409930000000000000000000000000000001", Point: 16}, 64, 0x4340000000000001, nil},
		{api.Dec{Digits: "90071992547409929999999999999999999999999999999", Point: 16}, 64, 0x4340000000000000, nil},
		{api.Dec{Digits: "1", Point: 400}, 64, 0x7ff0000000000000, api.ErrRange},
		{api.Dec{Digits: "1", Point: -400}, 64, 0, nil},
		{api.Dec{}, 64, 0, nil},
		{api.Dec{Digits: "1"}, 64, 0x3fb999999999999a, nil},
		{api.Dec{Digits: "1", Point: 1}, 64, 0x3ff0000000000000, nil},
		{api.Dec{Digits: "1", Point: 1, Cut: true}, 64, 0x3ff0000000000000, nil},
		{api.Dec{Digits: "25", Point: -323}, 64, 1, nil},
		{api.Dec{Digits: "24", Point: -323}, 64, 0, nil},
		{api.Dec{Digits: "22250738585072011", Point: -307}, 64, 0x000fffffffffffff, nil},
		{api.Dec{Digits: "22250738585072014", Point: -307}, 64, 0x0010000000000000, nil},
		{api.Dec{Digits: "17976931348623157", Point: 309}, 64, 0x7fefffffffffffff, nil},
		{api.Dec{Digits: "17976931348623158", Point: 309}, 64, 0x7fefffffffffffff, nil},
		{api.Dec{Digits: "17976931348623159", Point: 309}, 64, 0x7ff0000000000000, api.ErrRange},
		{api.Dec{Digits: "1", Point: 309}, 64, 0x7fe1ccf385ebc8a0, nil},
		{api.Dec{Digits: "1", Point: 310}, 64, 0x7ff0000000000000, api.ErrRange},
		{api.Dec{}, 32, 0, nil},
		{api.Dec{Digits: "1"}, 32, 0x3dcccccd, nil},
		{api.Dec{Digits: "16777217", Point: 8}, 32, 0x4b800000, nil},
		{api.Dec{Digits: "16777217", Point: 8, Cut: true}, 32, 0x4b800001, nil},
		{api.Dec{Digits: "16777219", Point: 8}, 32, 0x4b800002, nil},
		{api.Dec{Digits: "7", Point: -45}, 32, 0, nil},
		{api.Dec{Digits: "8", Point: -45}, 32, 1, nil},
		{api.Dec{Digits: "34028235", Point: 39}, 32, 0x7f7fffff, nil},
		{api.Dec{Digits: "34028235677973366", Point: 39}, 32, 0x7f7fffff, nil},
		{api.Dec{Digits: "340282356779733661637539395458142568447", Point: 39, Cut: true}, 32, 0x7f7fffff, nil},
		{api.Dec{Digits: "340282356779733661637539395458142568448", Point: 39}, 32, 0x7f800000, api.ErrRange},
		{api.Dec{Digits: "34028236", Point: 39}, 32, 0x7f800000, api.ErrRange},
		{api.Dec{Digits: "35", Point: 39}, 32, 0x7f800000, api.ErrRange},
	} {
		wantNearest(t, c.d, c.size, c.want, c.refused)
	}
}

// Half way the even float, and beside it the nearer one.
func TestCO2HalfWay(t *testing.T) {
	for _, f := range formats {
		hold := func(float uint64) {
			half := f.half(float)
			even := float + float%2
			d := half.exactly(t)
			wantNearest(t, d, f.size, even, f.refused(even))
			d.Cut = true
			wantNearest(t, d, f.size, float+1, f.refused(float+1))
			for _, d := range half.about() {
				f.wantFloat(t, d)
			}
		}
		for _, float := range f.named() {
			hold(float)
		}
		f.spread(400, hold)
	}
}

// The least float, its half and its one and a half; the greatest one, half way beyond it and further.
func TestCO2Ends(t *testing.T) {
	for _, f := range formats {
		for _, x := range []number{f.half(0), f.value(1), f.half(1), f.half(f.hidden() - 1), f.value(f.hidden()), f.value(f.most()), f.half(f.most() - 1), f.half(f.most()), f.value(f.inf())} {
			for _, d := range x.about() {
				f.wantFloat(t, d)
			}
		}
	}
}

func TestCO2FarPoints(t *testing.T) {
	for _, f := range formats {
		for _, digits := range []string{"1", "9", "123456789012345678901", strings.Repeat("9", api.MaxDigits), "1" + strings.Repeat("0", api.MaxDigits-2) + "1"} {
			for _, point := range farPoints {
				for _, cut := range []bool{false, true} {
					d := api.Dec{Digits: digits, Point: point, Cut: cut}
					if point > 0 {
						wantNearest(t, d, f.size, f.inf(), api.ErrRange)
					} else {
						wantNearest(t, d, f.size, 0, nil)
					}
				}
			}
		}
		for point := -327; point <= 313; point++ {
			f.wantFloat(t, api.Dec{Digits: "1", Point: point})
			f.wantFloat(t, api.Dec{Digits: "9", Point: point, Cut: true})
			f.wantFloat(t, api.Dec{Digits: strings.Repeat("9", api.MaxDigits), Point: point})
		}
	}
}

func TestCO2Many(t *testing.T) {
	c := chance(3)
	for _, f := range formats {
		for range 4000 {
			f.wantFloat(t, c.decimal(-330, 315))
			f.wantFloat(t, c.decimal(-50, 45))
		}
		// Of so many digits the last ones are ahead of a half way place, at it or behind it, and the first ones are those of a float.
		f.spread(1500, func(float uint64) {
			n, places := f.half(float).wholes()
			longer := c.within(0, 30)
			n.Mul(n, power(10, longer))
			n.Add(n, power(10, c.within(0, longer)))
			if d, ok := decimal(n, places+longer, c.word()%2 == 0); ok {
				f.wantFloat(t, d)
			}
		})
	}
}

func TestCO2Errors(t *testing.T) {
	for _, d := range append(neverDecimals(), someDecimals()...) {
		for _, size := range noSizes {
			wantNearest(t, d, size, 0, api.ErrBitSize)
		}
	}
	for _, d := range neverDecimals() {
		for _, f := range formats {
			wantNearest(t, d, f.size, 0, api.ErrArg)
		}
	}
}

// guesses are those of every kind.
func (f format) guesses(answer uint64) []uint64 {
	list := []uint64{0, 1, answer, f.one(), f.hidden(), f.most(), f.inf()}
	if answer > 0 {
		list = append(list, answer-1)
	}
	if answer < f.inf() {
		list = append(list, answer+1)
	}
	return list
}

// Whatever the guess is, the answer is Nearest's.
func TestCO3Guesses(t *testing.T) {
	c := chance(4)
	for _, f := range formats {
		hold := func(d api.Dec) {
			want := f.rounded(d)
			for _, guess := range append(f.guesses(want), c.word()%f.inf()) {
				wantSettle(t, d, guess, f.size, want, f.refused(want))
			}
		}
		for _, float := range f.named() {
			for _, x := range []number{f.value(float), f.half(float)} {
				n, places := x.wholes()
				for _, cut := range []bool{false, true} {
					if d, ok := decimal(n, places, cut); ok {
						hold(d)
					}
				}
			}
		}
		for _, d := range someDecimals() {
			hold(d)
		}
		for range 300 {
			hold(c.decimal(-330, 315))
			hold(c.decimal(-50, 45))
		}
	}
}

func TestCO3Named(t *testing.T) {
	half := api.Dec{Digits: "9007199254740993", Point: 16}
	for _, guess := range []uint64{0, 1, 0x433fffffffffffff, 0x4340000000000000, 0x4340000000000001, 0x4340000000000002, 0x7fefffffffffffff, 0x7ff0000000000000} {
		half.Cut = false
		wantSettle(t, half, guess, 64, 0x4340000000000000, nil)
		half.Cut = true
		wantSettle(t, half, guess, 64, 0x4340000000000001, nil)
		wantSettle(t, api.Dec{}, guess, 64, 0, nil)
		wantSettle(t, api.Dec{Digits: "1", Point: 400}, guess, 64, 0x7ff0000000000000, api.ErrRange)
		wantSettle(t, api.Dec{Digits: "1", Point: -400}, guess, 64, 0, nil)
	}
}

func TestCO3Errors(t *testing.T) {
	for _, size := range noSizes {
		for _, d := range append(neverDecimals(), someDecimals()...) {
			for _, guess := range []uint64{0, 0x3f800000, 1 << 31, 1 << 32, 0x7ff8000000000000, maxWord} {
				wantSettle(t, d, guess, size, 0, api.ErrBitSize)
			}
		}
	}
	for _, f := range formats {
		for _, guess := range f.noFloats() {
			for _, d := range append(neverDecimals(), someDecimals()...) {
				wantSettle(t, d, guess, f.size, 0, api.ErrArg)
			}
		}
		for _, d := range neverDecimals() {
			for _, guess := range append(f.named(), f.inf()) {
				wantSettle(t, d, guess, f.size, 0, api.ErrArg)
			}
		}
	}
}
