package interval

import (
	"math/big"
	"testing"

	"numeral/api"
)

// about are decimals at a number of units and next to it: with its last digit one more and one less, with one digit more behind it, with some, and with as many as may be.
func about(x *big.Int) []api.Dec {
	exact := units(x)
	list := []api.Dec{exact}
	if exact.Digits == "" {
		return append(list, api.Dec{Digits: "1", Point: -api.MaxPoint}, api.Dec{Digits: "1", Point: -400})
	}
	length := len(exact.Digits)
	n, _ := new(big.Int).SetString(exact.Digits, 10)
	for _, longer := range []int{0, 1, 20, api.MaxDigits - length} {
		for _, near := range []int64{-1, 1} {
			m := new(big.Int).Mul(n, power(10, longer))
			list = append(list, decimalOf(m.Add(m, big.NewInt(near)), length+longer-exact.Point))
		}
	}
	for _, shorter := range []int{1, length - 1, length - 9, length - 17} {
		if 0 < shorter && shorter < length {
			down := new(big.Int).Quo(n, power(10, shorter))
			list = append(list, decimalOf(down, length-shorter-exact.Point), decimalOf(down.Add(down, big.NewInt(1)), length-shorter-exact.Point))
		}
	}
	return list
}

// wantLies asks In for what the chapter says of a decimal and a float, with both signs.
func (f format) wantLies(t *testing.T, d api.Dec, float uint64) {
	t.Helper()
	want := f.lies(d, float)
	for _, float := range f.signed(float) {
		wantIn(t, d, float, f.size, want, nil)
	}
}

func TestIV1In(t *testing.T) {
	for _, c := range []struct {
		digits string
		point  int
		float  uint64
		size   int
		want   bool
	}{
		{"1", 0, 0x3fb999999999999a, 64, true}, {"1", 0, 0x3fb9999999999999, 64, false}, {"1", 0, 0x3fb999999999999b, 64, false}, {"1", 0, 0xbfb999999999999a, 64, true},
		{"1000000000000000055511151231257827021181583404541015625", 0, 0x3fb999999999999a, 64, true},
		{"1", 0, 0x3dcccccd, 32, true}, {"1", 0, 0x3dcccccc, 32, false}, {"34028235", 39, 0x7f7fffff, 32, true}, {"34028236", 39, 0x7f7fffff, 32, false}, {"35", 39, 0x7f7fffff, 32, false},
		{"9007199254740993", 16, 0x4340000000000000, 64, true}, {"9007199254740993", 16, 0x4340000000000001, 64, false},
		{"90071992547409930000000000000000000000000000001", 16, 0x4340000000000000, 64, false}, {"90071992547409930000000000000000000000000000001", 16, 0x4340000000000001, 64, true},
		{"90071992547409929999999999999999999999999999999", 16, 0x4340000000000000, 64, true}, {"90071992547409929999999999999999999999999999999", 16, 0x4340000000000001, 64, false},
		{"9007199254740995", 16, 0x4340000000000001, 64, false}, {"9007199254740995", 16, 0x4340000000000002, 64, true},
		{"90071992547409915", 16, 0x4340000000000000, 64, true}, {"90071992547409915", 16, 0x433fffffffffffff, 64, false},
		{"1", 24, 0x44b52d02c7e14af6, 64, true}, {"1", 24, 0x44b52d02c7e14af7, 64, false},
		{"", 0, 0, 64, true}, {"", 0, 1 << 63, 64, true}, {"", 0, 0, 32, true}, {"", 0, 1 << 31, 32, true}, {"", 0, 1, 64, false}, {"", 0, 1, 32, false}, {"", 0, 0x3f800000, 32, false},
		{"5", -323, 1, 64, true}, {"5", -323, 1 | 1<<63, 64, true}, {"24", -323, 0, 64, true}, {"25", -323, 0, 64, false}, {"25", -323, 1, 64, true}, {"8", -323, 1, 64, false}, {"8", -323, 2, 64, true},
		{"1", -api.MaxPoint, 0, 64, true}, {"1", -api.MaxPoint, 1, 64, false}, {"1", api.MaxPoint, 0x7fefffffffffffff, 64, false},
	} {
		wantIn(t, api.Dec{Digits: c.digits, Point: c.point}, c.float, c.size, c.want, nil)
	}
}

// The ends themselves belong to floats whose last bit is 0 alone, and the least step decides to either side of them.
func TestIV1InAtTheEnds(t *testing.T) {
	for _, f := range formats {
		hold := func(float uint64) {
			low, high := f.ends(float)
			even := float%2 == 0
			for _, float := range f.signed(float) {
				wantIn(t, units(low), float, f.size, even, nil)
				wantIn(t, units(high), float, f.size, even, nil)
				wantIn(t, units(f.value(float&^f.sign())), float, f.size, true, nil)
			}
			for _, x := range []*big.Int{low, high, f.value(float)} {
				for _, d := range about(x) {
					f.wantLies(t, d, float)
				}
			}
		}
		for _, float := range f.named() {
			hold(float)
		}
		f.spread(300, hold)
	}
}

// One unit as far behind as a decimal goes, to either side of both ends.
func TestIV1InAHairAway(t *testing.T) {
	for _, f := range formats {
		f.everyKind(1000, func(float uint64) {
			if float == 0 {
				return
			}
			low, high := f.ends(float)
			for _, c := range []struct {
				end    *big.Int
				inward int64
			}{{low, 1}, {high, -1}} {
				d := units(c.end)
				n, _ := new(big.Int).SetString(d.Digits, 10)
				longer := api.MaxDigits - len(d.Digits)
				n.Mul(n, power(10, longer))
				for _, way := range []int64{1, -1} {
					near := decimalOf(new(big.Int).Add(n, big.NewInt(way)), api.MaxDigits-d.Point)
					wantIn(t, near, float, f.size, way == c.inward, nil)
				}
			}
		})
	}
}

func TestIV1InOfOthers(t *testing.T) {
	for _, f := range formats {
		for _, d := range someDecimals() {
			for _, float := range f.named() {
				f.wantLies(t, d, float)
			}
		}
	}
}

func TestIV1InErrors(t *testing.T) {
	for _, f := range formats {
		for _, d := range append(neverDecimals(), cutDecimals()...) {
			for _, float := range f.named() {
				for _, float := range f.signed(float) {
					wantIn(t, d, float, f.size, false, api.ErrArg)
				}
			}
			for _, size := range noSizes {
				wantIn(t, d, f.one(), size, false, api.ErrBitSize)
			}
		}
	}
	// A value with something more behind it is refused, however sure it is where it lies.
	for _, f := range formats {
		f.spread(200, func(float uint64) {
			d := units(f.value(float))
			d.Cut = true
			wantIn(t, d, float, f.size, false, api.ErrArg)
		})
	}
}
