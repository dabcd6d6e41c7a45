package fixed

import (
	"math/big"
	"strconv"
	"testing"

	"numeral/api"
)

func TestFI1Digits(t *testing.T) {
	for _, c := range []struct {
		float  uint64
		size   int
		n      int
		digits string
		point  int
	}{
		// 2.5 and 3.5 are half way, and go to the even one; so do 24.5 and 25.5; 0.5 has one digit alone.
		{0x4004000000000000, 64, 1, "2", 1}, {0x400c000000000000, 64, 1, "4", 1}, {0xc004000000000000, 64, 1, "2", 1}, {0xc00c000000000000, 64, 1, "4", 1}, {0x40200000, 32, 1, "2", 1}, {0x40600000, 32, 1, "4", 1},
		{0x4038800000000000, 64, 2, "24", 2}, {0x4039800000000000, 64, 2, "26", 2}, {0x3fe0000000000000, 64, 1, "5", 0}, {0x3f000000, 32, 1, "5", 0},
		{0x4004000000000000, 64, 2, "25", 1}, {0x4004000000000000, 64, 3, "25", 1}, {0x4004000000000000, 64, mostDigits, "25", 1},
		// 20.5 to two: the even one ends in a nought, which is dropped; 29.5 goes over to the next ten.
		{0x4034800000000000, 64, 2, "2", 2}, {0x403d800000000000, 64, 2, "3", 2}, {0x41a40000, 32, 2, "2", 2}, {0x41ec0000, 32, 2, "3", 2},
		// Rounded up over a power of ten: 9.5, 99.5, 999.5, 0.96875, 9.999; 8.5 is not.
		{0x4023000000000000, 64, 1, "1", 2}, {0x4058e00000000000, 64, 2, "1", 3}, {0x4058e00000000000, 64, 1, "1", 3}, {0x408f3c0000000000, 64, 3, "1", 4}, {0x3fef000000000000, 64, 1, "1", 1}, {0x4023ff7ced916873, 64, 3, "1", 2}, {0x4021000000000000, 64, 1, "8", 1},
		{0x41180000, 32, 1, "1", 2}, {0x42c70000, 32, 2, "1", 3}, {0xc2c70000, 32, 2, "1", 3}, {0x3f780000, 32, 1, "1", 1},
		// 0.1 and the float of 0.1 in size 32; 1/3.
		{0x3fb999999999999a, 64, 1, "1", 0}, {0x3fb999999999999a, 64, 16, "1", 0}, {0x3fb999999999999a, 64, 17, "10000000000000001", 0}, {0x3fb999999999999a, 64, 18, "100000000000000006", 0}, {0x3fb999999999999a, 64, 54, "100000000000000005551115123125782702118158340454101562", 0},
		{0x3fb999999999999a, 64, 55, "1000000000000000055511151231257827021181583404541015625", 0}, {0x3fb999999999999a, 64, 56, "1000000000000000055511151231257827021181583404541015625", 0},
		{0x3dcccccd, 32, 8, "1", 0}, {0x3dcccccd, 32, 9, "100000001", 0}, {0x3dcccccd, 32, 12, "10000000149", 0}, {0x3fd5555555555555, 64, 16, "3333333333333333", 0}, {0x3fd5555555555555, 64, 17, "33333333333333331", 0},
		// 5e-324, the greatest, whole numbers.
		{1, 64, 1, "5", -323}, {1, 64, 2, "49", -323}, {1, 64, 3, "494", -323}, {1, 32, 1, "1", -44}, {1, 32, 2, "14", -44}, {0x7fefffffffffffff, 64, 1, "2", 309}, {0x7fefffffffffffff, 64, 17, "17976931348623157", 309}, {0x7f7fffff, 32, 1, "3", 39}, {0x7f7fffff, 32, 9, "340282347", 39},
		{0x4340000000000001, 64, 15, "900719925474099", 16}, {0x4340000000000001, 64, 16, "9007199254740994", 16}, {0x4480f0cf064dd592, 64, 1, "1", 23}, {0x4480f0cf064dd592, 64, 800, "1", 23},
		{0x3ff0000000000000, 64, 1, "1", 1}, {0x3f800000, 32, mostDigits, "1", 1},
		{0, 64, 1, "", 0}, {1 << 63, 64, 1, "", 0}, {0, 64, mostDigits, "", 0}, {0, 32, 7, "", 0}, {1 << 31, 32, mostDigits, "", 0},
	} {
		wantDigits(t, c.float, c.size, c.n, api.Dec{Digits: c.digits, Point: c.point}, nil)
	}
}

// counts are those about which a value's digits are asked for: few, as many as floats are told with, as many as it has, one less, and more.
func counts(all int) []int {
	list := []int{1, 2, 3, 7, 8, 9, 15, 16, 17, 18, 19, 20, 40, all, all + 1, 799, 800, 801, mostDigits}
	if all > 1 {
		list = append(list, all-1, all/2+1)
	}
	return list
}

// Against whole numbers: of every kind of float, with the one sign or the other.
func TestFI1DigitsOfEveryKind(t *testing.T) {
	c := chance(7)
	for _, f := range formats {
		f.everyKind(1500, func(float uint64) {
			value := f.value(float)
			all := 1
			if float != 0 {
				all = length(value) - noughts(value)
			}
			for _, n := range counts(all) {
				wantDigits(t, f.signed(float)[c.within(0, 1)], f.size, n, decimal(nearest(value, unitOfDigit(value, n))), nil)
			}
		})
	}
}

// Against the library, which tells floats to so many digits too.
func TestFI1DigitsAsTheLibrary(t *testing.T) {
	c := chance(2)
	for _, f := range formats {
		f.everyKind(3000, func(float uint64) {
			for _, n := range []int{1, c.within(2, 20), c.within(2, 200), c.within(2, 1000)} {
				want := taken(t, strconv.FormatFloat(f.native(float), 'e', n-1, 64))
				wantDigits(t, float, f.size, n, want, nil)
			}
		})
	}
}

// Every count of digits of the values with the most of them, and of one with few.
func TestFI1DigitsOfEveryCount(t *testing.T) {
	for _, c := range []struct {
		float uint64
		f     format
	}{
		{0x001fffffffffffff, formats[1]}, {1, formats[1]}, {0x000fffffffffffff, formats[1]}, {0x7fefffffffffffff, formats[1]}, {0x00ffffff, formats[0]}, {1, formats[0]}, {0x7f7fffff, formats[0]}, {0x40490fdb, formats[0]}, {0x3ff0000000000000, formats[1]},
	} {
		value := c.f.value(c.float)
		for n := 1; n <= mostDigits; n++ {
			wantDigits(t, c.float, c.f.size, n, decimal(nearest(value, unitOfDigit(value, n))), nil)
		}
	}
}

// Whole numbers and a half are half way between two numbers of as many digits as they have ahead of the point.
func TestFI1DigitsOfHalves(t *testing.T) {
	for _, f := range formats {
		for whole := 1; whole < 3000; whole++ {
			ahead := strconv.Itoa(whole)
			even := whole + whole%2
			want := taken(t, strconv.Itoa(even))
			for _, float := range f.signed(f.read(ahead + ".5")) {
				wantDigits(t, float, f.size, len(ahead), want, nil)
				wantDigits(t, float, f.size, len(ahead)+1, taken(t, ahead+".5"), nil)
			}
			// The floats next to it are nearer to one of both, if only by a bit.
			float := f.read(ahead + ".5")
			wantDigits(t, float-1, f.size, len(ahead), taken(t, ahead), nil)
			wantDigits(t, float+1, f.size, len(ahead), taken(t, strconv.Itoa(whole+1)), nil)
		}
	}
}

// Great whole numbers that end in a 5 and noughts are half way, too; those next to them are not.
func TestFI1DigitsOfWholeHalves(t *testing.T) {
	for _, f := range formats {
		for whole := uint64(15); whole < 100000; whole += 10 {
			text := strconv.FormatUint(whole, 10)
			lead := whole / 10
			for _, behind := range []string{"", "0", "00"} {
				if f.size == 32 && len(text+behind) > 7 {
					continue
				}
				wantDigits(t, f.read(text+behind), f.size, len(text)-1, taken(t, strconv.FormatUint(lead+lead%2, 10)+"0"+behind), nil)
			}
			wantDigits(t, f.read(text[:len(text)-1]+"49"), f.size, len(text)-1, taken(t, strconv.FormatUint(lead, 10)+"00"), nil)
			wantDigits(t, f.read(text[:len(text)-1]+"51"), f.size, len(text)-1, taken(t, strconv.FormatUint(lead+1, 10)+"00"), nil)
		}
	}
}

// What nines ahead of the last place bring up is one digit, and the point is one higher.
func TestFI1DigitsOverAPowerOfTen(t *testing.T) {
	for _, f := range formats {
		for nines := 1; nines < f.bits*3/10; nines++ {
			power := new(big.Int).Exp(big.NewInt(10), big.NewInt(int64(nines)), nil)
			// One unit of the mantissa below a power of ten, and one half below it.
			float := f.read(power.String())
			less := new(big.Int).Sub(power, big.NewInt(1))
			half := f.read(less.String() + ".5")
			for n := 1; n <= nines; n++ {
				wantDigits(t, half, f.size, n, api.Dec{Digits: "1", Point: nines + 1}, nil)
				wantDigits(t, float-1, f.size, n, api.Dec{Digits: "1", Point: nines + 1}, nil)
				wantDigits(t, float, f.size, n, api.Dec{Digits: "1", Point: nines + 1}, nil)
			}
			wantDigits(t, half, f.size, nines+1, taken(t, less.String()+".5"), nil)
		}
	}
}
