package interval

import (
	"strconv"
	"strings"
	"testing"

	"numeral/api"
	"numeral/dec"
)

func TestIV1Values(t *testing.T) {
	for _, c := range []struct {
		float  uint64
		size   int
		digits string
		point  int
	}{
		{1, 32, "140129846432481707092372958328991613128026194187651577175706828388979108268586060148663818836212158203125", -44},
		{0, 32, "", 0}, {1 << 31, 32, "", 0}, {0, 64, "", 0}, {1 << 63, 64, "", 0},
		{0x3f800000, 32, "1", 1}, {0xbf800000, 32, "1", 1}, {0x3ff0000000000000, 64, "1", 1}, {0xbff0000000000000, 64, "1", 1},
		{0x3f000000, 32, "5", 0}, {0x3fc00000, 32, "15", 1}, {0x41200000, 32, "1", 2}, {0x4b7fffff, 32, "16777215", 8}, {0x3d000000, 32, "3125", -1},
		{0x3dcccccd, 32, "100000001490116119384765625", 0}, {0x7f7fffff, 32, "340282346638528859811704183484516925440"[:38], 39},
		{0x3fb999999999999a, 64, "1000000000000000055511151231257827021181583404541015625", 0},
		{0x4340000000000000, 64, "9007199254740992", 16}, {0x4340000000000001, 64, "9007199254740994", 16}, {0x433fffffffffffff, 64, "9007199254740991", 16},
		{0x444b1ae4d6e2ef50, 64, "1", 22}, {0x3ff8000000000000, 64, "15", 1}, {0x3f50624dd2f1a9fc, 64, "1000000000000000020816681711721685132943093776702880859375", -2},
	} {
		wantExact(t, c.float, c.size, api.Dec{Digits: c.digits, Point: c.point}, nil)
	}
}

// The digits, as a whole number, are the value, as one; their last is the value's last.
func TestIV1ValuesOfEveryKind(t *testing.T) {
	for _, f := range formats {
		f.everyKind(5000, func(float uint64) {
			value := f.value(float)
			for _, float := range f.signed(float) {
				wantExact(t, float, f.size, units(value), nil)
			}
			d, _ := Exact(float, f.size)
			if dec.Valid(d) != nil || d.Cut || order(d, value) != 0 {
				t.Errorf("Exact(%#x, %d): %s", float, f.size, told(d))
			}
		})
	}
}

// The library tells the same digits, where it is asked for more than there are.
func TestIV1ValuesAsTheLibrary(t *testing.T) {
	for _, f := range formats {
		f.everyKind(2000, func(float uint64) {
			if float == 0 {
				return
			}
			digits, exponent, _ := strings.Cut(strconv.FormatFloat(f.native(float), 'e', api.MaxDigits, 64), "e")
			point, err := strconv.Atoi(exponent)
			if err != nil {
				t.Fatal(err)
			}
			digits = strings.TrimRight(strings.Replace(digits, ".", "", 1), "0")
			wantExact(t, float, f.size, api.Dec{Digits: digits, Point: point + 1}, nil)
		})
	}
}

// The longest values there are.
func TestIV1MostDigits(t *testing.T) {
	for _, c := range []struct {
		float       uint64
		size, count int
	}{
		{0x000fffffffffffff, 64, 767}, {0x001fffffffffffff, 64, 767}, {1, 64, 751}, {0x007fffff, 32, 112}, {0x00ffffff, 32, 112}, {1, 32, 105}, {0x7fefffffffffffff, 64, 309},
	} {
		if d, err := Exact(c.float, c.size); len(d.Digits) != c.count || err != nil {
			t.Errorf("Exact(%#x, %d): %d digits, %v", c.float, c.size, len(d.Digits), err)
		}
	}
}
