package fixed

import (
	"strconv"
	"testing"

	"numeral/api"
)

func TestFI1Places(t *testing.T) {
	for _, c := range []struct {
		float  uint64
		size   int
		n      int
		digits string
		point  int
	}{
		// 0.05 is a little above, 0.05 of size 32 too; the floats below are below the half.
		{0x3fa999999999999a, 64, 1, "1", 0}, {0x3fa9999999999999, 64, 1, "", 0}, {0xbfa999999999999a, 64, 1, "1", 0}, {0xbfa9999999999999, 64, 1, "", 0}, {0x3d4ccccd, 32, 1, "1", 0}, {0x3d4ccccc, 32, 1, "", 0},
		{0x3fa999999999999a, 64, 0, "", 0}, {0x3fa999999999999a, 64, 2, "5", -1},
		// 0.5: half way to 0, which is even; just above it; 1.5, 2.5, 3.5.
		{0x3fe0000000000000, 64, 0, "", 0}, {0xbfe0000000000000, 64, 0, "", 0}, {0x3fe0000000000001, 64, 0, "1", 1}, {0x3fdfffffffffffff, 64, 0, "", 0}, {0x3fe0000000000000, 64, 1, "5", 0},
		{0x3f000000, 32, 0, "", 0}, {0x3f000001, 32, 0, "1", 1}, {0x3effffff, 32, 0, "", 0}, {0x3fc00000, 32, 0, "2", 1}, {0x3fbfffff, 32, 0, "1", 1}, {0x3fc00001, 32, 0, "2", 1},
		{0x3ff8000000000000, 64, 0, "2", 1}, {0x4004000000000000, 64, 0, "2", 1}, {0x400c000000000000, 64, 0, "4", 1}, {0x4004000000000001, 64, 0, "3", 1}, {0x4003ffffffffffff, 64, 0, "2", 1},
		// 0.125 and 0.375 to two places, 0.25 and 0.75 to one.
		{0x3fc0000000000000, 64, 2, "12", 0}, {0x3fd8000000000000, 64, 2, "38", 0}, {0x3fd0000000000000, 64, 1, "2", 0}, {0x3fe8000000000000, 64, 1, "8", 0}, {0x3fc0000000000000, 64, 3, "125", 0}, {0x3fc0000000000000, 64, 4, "125", 0},
		// Up to one unit, where no digit is left.
		{0x3fe8000000000000, 64, 0, "1", 1}, {0xbfe8000000000000, 64, 0, "1", 1}, {0x3feeb851eb851eb8, 64, 1, "1", 1}, {0x3fb47ae147ae147b, 64, 1, "1", 0}, {0x3f70624dd2f1a9fc, 64, 2, "", 0}, {0x3f7cac083126e979, 64, 2, "1", -1}, {0x3f400000, 32, 0, "1", 1}, {0x3f75c28f, 32, 1, "1", 1},
		// 9.5, 99.96, 0.9999.
		{0x4023000000000000, 64, 0, "1", 2}, {0x4058fd70a3d70a3d, 64, 1, "1", 3}, {0x3fefff2e48e8a71e, 64, 3, "1", 1}, {0x3fefff2e48e8a71e, 64, 4, "9999", 0},
		// The first digit far behind the last place, next to it, in it.
		{0x01a56e1fc2f8f359, 64, 0, "", 0}, {0x01a56e1fc2f8f359, 64, 298, "", 0}, {0x01a56e1fc2f8f359, 64, 299, "", 0}, {0x01a56e1fc2f8f359, 64, 300, "1", -299}, {0x01a56e1fc2f8f359, 64, 301, "1", -299}, {1, 64, 0, "", 0}, {1, 64, 322, "", 0}, {1, 64, 323, "", 0}, {1, 64, 324, "5", -323}, {1, 32, 44, "", 0}, {1, 32, 45, "1", -44}, {2, 64, 323, "1", -322}, {2, 64, 322, "", 0},
		// 0.09: nothing is left at no place, and one digit at the first.
		{0x3fb70a3d70a3d70a, 64, 0, "", 0}, {0x3fb70a3d70a3d70a, 64, 1, "1", 0}, {0x3fe70a3d70a3d70a, 64, 0, "1", 1}, {0x3fdfae147ae147ae, 64, 0, "", 0},
		// Whole numbers, great ones and the greatest.
		{0x3ff0000000000000, 64, 0, "1", 1}, {0x3ff0000000000000, 64, mostPlaces, "1", 1}, {0x4340000000000001, 64, 0, "9007199254740994", 16}, {0x4480f0cf064dd592, 64, 0, "1", 23}, {0x4480f0cf064dd592, 64, 5, "1", 23}, {0x7f7fffff, 32, 0, "34028234663852885981170418348451692544", 39}, {0x7f7fffff, 32, mostPlaces, "34028234663852885981170418348451692544", 39},
		{0, 64, 0, "", 0}, {1 << 63, 64, 0, "", 0}, {0, 64, mostPlaces, "", 0}, {0, 32, 3, "", 0}, {1 << 31, 32, mostPlaces, "", 0},
	} {
		wantPlaces(t, c.float, c.size, c.n, api.Dec{Digits: c.digits, Point: c.point}, nil)
	}
}

// placesAbout are those to which a value may be told, its first digit standing so many behind the point, and its last one, too: those about both, few, and many.
func placesAbout(first, last int) []int {
	var list []int
	for _, n := range []int{0, 1, 2, 3, 6, 17, 100, first - 3, first - 2, first - 1, first, first + 1, first + 2, first + 8, first + 16, first + 17, (first + last) / 2, last - 2, last - 1, last, last + 1, mostPlaces - 1, mostPlaces} {
		if n >= 0 && n <= mostPlaces {
			list = append(list, n)
		}
	}
	return list
}

// Against whole numbers: of every kind of float, with the one sign or the other.
func TestFI1PlacesOfEveryKind(t *testing.T) {
	c := chance(8)
	for _, f := range formats {
		f.everyKind(1500, func(float uint64) {
			value := f.value(float)
			first, last := 0, 0
			if float != 0 {
				first, last = places+1-length(value), places-noughts(value)
			}
			for _, n := range placesAbout(first, last) {
				wantPlaces(t, f.signed(float)[c.within(0, 1)], f.size, n, decimal(nearest(value, unitOfPlace(n))), nil)
			}
		})
	}
}

// Against the library, which tells floats to so many places too.
func TestFI1PlacesAsTheLibrary(t *testing.T) {
	c := chance(3)
	for _, f := range formats {
		f.everyKind(3000, func(float uint64) {
			for _, n := range []int{0, c.within(1, 20), c.within(1, 330), c.within(1, mostPlaces)} {
				want := taken(t, strconv.FormatFloat(f.native(float), 'f', n, 64))
				wantPlaces(t, float, f.size, n, want, nil)
			}
		})
	}
}

// Every count of places of the values with the most of them, and of some with few.
func TestFI1PlacesOfEveryCount(t *testing.T) {
	for _, c := range []struct {
		float uint64
		f     format
	}{
		{1, formats[1]}, {0x000fffffffffffff, formats[1]}, {0x001fffffffffffff, formats[1]}, {0x3fb999999999999a, formats[1]}, {0x7fefffffffffffff, formats[1]}, {0x00ffffff, formats[0]}, {1, formats[0]}, {0x40490fdb, formats[0]}, {0x3fe0000000000000, formats[1]},
	} {
		value := c.f.value(c.float)
		for n := range mostPlaces + 1 {
			wantPlaces(t, c.float, c.f.size, n, decimal(nearest(value, unitOfPlace(n))), nil)
		}
	}
}

// Odd numbers of units of 2^-(n+1) are half way between two numbers of n places; the floats next to them are not.
func TestFI1PlacesOfHalves(t *testing.T) {
	for _, f := range formats {
		for n := range 6 {
			for odd := 1; odd < 400; odd += 2 {
				float := f.read("0x" + strconv.FormatInt(int64(odd), 16) + "p" + strconv.Itoa(-n-1))
				value := f.value(float)
				unit := unitOfPlace(n)
				count, rest := f.value(float), f.value(float)
				count.QuoRem(count, unit, rest)
				if rest.Lsh(rest, 1).Cmp(unit) != 0 {
					t.Fatalf("%#x of %d is not half way at %d places", float, f.size, n)
				}
				low := decimal(f.value(float).Sub(value, rest.Rsh(rest, 1)))
				high := decimal(value.Add(value, rest))
				even := low
				if count.Bit(0) == 1 {
					even = high
				}
				for i, want := range []api.Dec{low, even, high} {
					for _, float := range f.signed(float + uint64(i) - 1) {
						wantPlaces(t, float, f.size, n, want, nil)
					}
				}
			}
		}
	}
}

// Where no digit is left a value is told as one unit of the last place, if it is above the half of it, and else as 0.
func TestFI1PlacesWithNoDigit(t *testing.T) {
	for _, f := range formats {
		for n := range 45 {
			half := "0.5e" + strconv.Itoa(-n)
			float := f.read(half)
			value := f.value(float)
			exact := unitOfPlace(n)
			above := value.Lsh(value, 1).Cmp(exact)
			one := api.Dec{Digits: "1", Point: 1 - n}
			told := api.Dec{}
			if above > 0 {
				told = one
			}
			for _, float := range f.signed(float) {
				wantPlaces(t, float, f.size, n, told, nil)
				wantPlaces(t, float+1, f.size, n, one, nil)
				wantPlaces(t, float-1, f.size, n, api.Dec{}, nil)
			}
			// From the power of ten itself on a digit is left.
			for _, float := range []uint64{f.read("1e" + strconv.Itoa(-n)), f.read("0.95e" + strconv.Itoa(-n))} {
				wantPlaces(t, float, f.size, n, one, nil)
			}
			if n > 0 {
				wantPlaces(t, float, f.size, n-1, api.Dec{}, nil)
				wantPlaces(t, f.read("0.99e"+strconv.Itoa(-n)), f.size, n-1, api.Dec{}, nil)
			}
		}
	}
}
