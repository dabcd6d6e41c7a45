package hasty

import (
	"strconv"
	"testing"

	"numeral/api"
	"numeral/dec"
	"numeral/interval"
)

func TestHA1Digits(t *testing.T) {
	for _, c := range []struct {
		float  uint64
		size   int
		n      int
		digits string
		point  int
	}{
		{0x4028b0a3d70a3d71, 64, 3, "123", 2}, {0x4028b0a3d70a3d71, 64, 4, "1235", 2}, {0x4028b0a3d70a3d71, 64, 18, "123450000000000006", 2},
		// 2.5, 3.5, 0.5, 24.5, 25.5: half way, to the even one. 20.5's even one ends in a nought, which is dropped; 29.5 goes over to the next ten.
		{0x4004000000000000, 64, 1, "2", 1}, {0x400c000000000000, 64, 1, "4", 1}, {0x40200000, 32, 1, "2", 1}, {0x40600000, 32, 1, "4", 1}, {0x3fe0000000000000, 64, 1, "5", 0},
		{0x4038800000000000, 64, 2, "24", 2}, {0x4039800000000000, 64, 2, "26", 2}, {0x4034800000000000, 64, 2, "2", 2}, {0x403d800000000000, 64, 2, "3", 2}, {0x41a40000, 32, 2, "2", 2}, {0x41ec0000, 32, 2, "3", 2},
		// Rounded up over a power of ten: 9.5, 99.5, 0.96875, 9.999; 8.5 is not.
		{0x4023000000000000, 64, 1, "1", 2}, {0x4058e00000000000, 64, 2, "1", 3}, {0x4058e00000000000, 64, 1, "1", 3}, {0x3fef000000000000, 64, 1, "1", 1}, {0x4023ff7ced916873, 64, 3, "1", 2}, {0x4021000000000000, 64, 1, "8", 1}, {0x41180000, 32, 1, "1", 2}, {0x42c70000, 32, 2, "1", 3},
		// 0.1 and the float of 0.1 in size 32; 1/3.
		{0x3fb999999999999a, 64, 1, "1", 0}, {0x3fb999999999999a, 64, 16, "1", 0}, {0x3fb999999999999a, 64, 17, "10000000000000001", 0}, {0x3fb999999999999a, 64, 18, "100000000000000006", 0}, {0x3dcccccd, 32, 8, "1", 0}, {0x3dcccccd, 32, 9, "100000001", 0}, {0x3dcccccd, 32, 12, "10000000149", 0}, {0x3fd5555555555555, 64, 16, "3333333333333333", 0}, {0x3fd5555555555555, 64, 17, "33333333333333331", 0},
		// The least floats, the greatest denormal ones, the least that are none, the greatest.
		{1, 64, 1, "5", -323}, {1, 64, 2, "49", -323}, {1, 64, 3, "494", -323}, {1, 64, 18, "494065645841246544", -323}, {1, 32, 1, "1", -44}, {1, 32, 2, "14", -44}, {1, 32, 18, "140129846432481707", -44},
		{0x000fffffffffffff, 64, 17, "22250738585072009", -307}, {0x0010000000000000, 64, 17, "22250738585072014", -307}, {0x007fffff, 32, 9, "117549421", -37}, {0x00800000, 32, 9, "117549435", -37},
		{0x7fefffffffffffff, 64, 1, "2", 309}, {0x7fefffffffffffff, 64, 17, "17976931348623157", 309}, {0x7f7fffff, 32, 1, "3", 39}, {0x7f7fffff, 32, 9, "340282347", 39},
		// 2^53, and those behind it; ten to the 22, and the float of ten to the 23.
		{0x4340000000000000, 64, 15, "900719925474099", 16}, {0x4340000000000000, 64, 16, "9007199254740992", 16}, {0x4340000000000001, 64, 16, "9007199254740994", 16}, {0x4480f0cf064dd592, 64, 1, "1", 23}, {0x4480f0cf064dd592, 64, 18, "1", 23}, {0x44b52d02c7e14af6, 64, 1, "1", 24}, {0x44b52d02c7e14af6, 64, 17, "99999999999999992", 23}, {0x44b52d02c7e14af6, 64, 15, "1", 24},
		// 1 and its neighbours.
		{0x3ff0000000000000, 64, 1, "1", 1}, {0x3ff0000000000000, 64, 18, "1", 1}, {0x3ff0000000000001, 64, 16, "1", 1}, {0x3ff0000000000001, 64, 17, "10000000000000002", 1}, {0x3fefffffffffffff, 64, 16, "9999999999999999", 0}, {0x3fefffffffffffff, 64, 15, "1", 1}, {0x3f800001, 32, 8, "10000001", 1}, {0x3f7fffff, 32, 7, "9999999", 0},
	} {
		f := formats[c.size/64]
		for _, float := range f.signed(c.float) {
			wantOrNotSure(t, float, c.size, c.n, api.Dec{Digits: c.digits, Point: c.point})
		}
	}
}

// Floats of every kind, to every count of digits, against whole numbers; of hardly any it is not sure.
func TestHA1EveryKind(t *testing.T) {
	for _, f := range formats {
		asked, notSure := 0, 0
		f.everyKind(4000, func(float uint64) {
			asked += 2 * most
			notSure += f.hold(t, float)
		})
		if notSure > asked/100 {
			t.Errorf("size %d: not sure of %d of %d", f.size, notSure, asked)
		}
	}
}

// Denormal floats and those next to the least that are none: of few bits, up to all.
func TestHA1LeastOnes(t *testing.T) {
	for _, f := range formats {
		for float := uint64(1); float < 300; float++ {
			f.hold(t, float)
		}
		for about := f.hidden() - 60; about < f.hidden()+60; about++ {
			f.hold(t, about)
		}
		c := chance(2)
		for bits := 1; bits < f.bits; bits++ {
			for range 5 {
				f.hold(t, 1<<(bits-1)|c.word()%(1<<(bits-1)))
			}
		}
	}
}

// Against the library, which tells floats to so many digits too.
func TestHA1AsTheLibrary(t *testing.T) {
	c := chance(3)
	for _, f := range formats {
		for range 20000 {
			float := 1 + c.word()%f.greatest()
			n := c.within(1, most)
			wantOrNotSure(t, float, f.size, n, taken(t, strconv.FormatFloat(f.native(float), 'e', n-1, 64)))
		}
	}
}

// As layer 3 rounds the value that layer 19 tells.
func TestHA1AsLayer3Rounds(t *testing.T) {
	for _, f := range formats {
		f.everyKind(1000, func(float uint64) {
			value, err := interval.Exact(float, f.size)
			if err != nil {
				t.Fatal(err)
			}
			for n := 1; n <= most; n++ {
				want, err := dec.Round(value, n)
				if err != nil {
					t.Fatal(err)
				}
				wantOrNotSure(t, float, f.size, n, want)
			}
		})
	}
}

// Numbers with few digits, and the floats next to them: what has been rounded to a float is told again, where it has that many digits.
func TestHA1FewDigits(t *testing.T) {
	c := chance(4)
	for _, f := range formats {
		for count := 1; count <= 17; count++ {
			for range 25 {
				power := tens[count-1].Uint64()
				text := strconv.FormatUint(power+c.word()%(9*power), 10) + "e" + strconv.Itoa(c.within(-60, 38)-count)
				float := f.read(text)
				if float < 2 || float >= f.greatest() {
					continue
				}
				for _, float := range []uint64{float - 1, float, float + 1} {
					f.hold(t, float)
				}
				if count <= (f.bits-1)*3/10 && float > f.hidden() {
					wantOrNotSure(t, float, f.size, count, taken(t, text))
				}
			}
		}
	}
}
