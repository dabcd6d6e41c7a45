package shortest

import (
	"math/big"
	"strconv"
	"testing"

	"numeral/api"
)

func TestSH1Digits(t *testing.T) {
	for _, c := range []struct {
		float  uint64
		size   int
		digits string
		point  int
	}{
		{0, 32, "", 0}, {1 << 31, 32, "", 0}, {0, 64, "", 0}, {1 << 63, 64, "", 0},
		{1, 64, "5", -323}, {1 | 1<<63, 64, "5", -323}, {2, 64, "1", -322}, {3, 64, "15", -322}, {1, 32, "1", -44}, {2, 32, "3", -44}, {3, 32, "4", -44}, {1<<31 | 1, 32, "1", -44},
		{0x000fffffffffffff, 64, "2225073858507201", -307}, {0x0010000000000000, 64, "22250738585072014", -307},
		{0x007fffff, 32, "11754942", -37}, {0x00800000, 32, "11754944", -37},
		{0x3ff0000000000000, 64, "1", 1}, {0xbff0000000000000, 64, "1", 1}, {0x3fefffffffffffff, 64, "9999999999999999", 0}, {0x3ff0000000000001, 64, "10000000000000002", 1},
		{0x3f800000, 32, "1", 1}, {0xbf800000, 32, "1", 1}, {0x3f7fffff, 32, "99999994", 0}, {0x3f800001, 32, "10000001", 1},
		{0x3fb999999999999a, 64, "1", 0}, {0xbfb999999999999a, 64, "1", 0}, {0x3fd3333333333334, 64, "30000000000000004", 0}, {0x3fd3333333333333, 64, "3", 0}, {0x3dcccccd, 32, "1", 0},
		{0x7f7fffff, 32, "34028235", 39}, {0xff7fffff, 32, "34028235", 39}, {0x7f7ffffe, 32, "34028233", 39}, {0x7fefffffffffffff, 64, "17976931348623157", 309}, {0x7feffffffffffffe, 64, "17976931348623155", 309},
		{0x4b800000, 32, "16777216", 8}, {0x4b800001, 32, "16777218", 8}, {0x4b7fffff, 32, "16777215", 8}, {0x4340000000000000, 64, "9007199254740992", 16}, {0x4340000000000001, 64, "9007199254740994", 16}, {0x433fffffffffffff, 64, "9007199254740991", 16},
		{0x40091eb851eb851f, 64, "314", 1}, {0x400921fb54442d18, 64, "3141592653589793", 1}, {0x40490fdb, 32, "31415927", 1},
		// Nine digits, the most of size 32.
		{0x41201b88, 32, "100067215", 2}, {0x4cbece2f, 32, "100036984", 9},
		// Ten to the 23 is half way between these two, and belongs to the one whose last bit is 0; so does 5 times ten to the 22.
		{0x44b52d02c7e14af6, 64, "1", 24}, {0x44b52d02c7e14af7, 64, "10000000000000001", 24}, {0x44a52d02c7e14af6, 64, "5", 23}, {0x44a52d02c7e14af7, 64, "50000000000000004", 23},
		// The nearest number with so many digits is below these powers of two, and out; one farther off above them is in.
		{0x0060000000000000, 64, "7120236347223045", -306}, {0x0f800000, 32, "12621775", -28},
		// Half way between two: the even one.
		{0x4a000001, 32, "20971522", 7}, {0x4a000003, 32, "20971528", 7}, {0x4310000000000001, 64, "11258999068426242", 16}, {0x4310000000000003, 64, "11258999068426248", 16},
	} {
		wantDigits(t, c.float, c.size, api.Dec{Digits: c.digits, Point: c.point}, nil)
	}
}

// holdDigits asks for a float's digits, with both signs, as the chapter's words tell them by whole numbers.
func (f format) holdDigits(t *testing.T, float uint64) {
	t.Helper()
	want := f.digits(t, float)
	for _, float := range f.signed(float) {
		wantDigits(t, float, f.size, want, nil)
	}
}

func TestSH1EveryKind(t *testing.T) {
	for _, f := range formats {
		f.everyKind(2000, func(float uint64) { f.holdDigits(t, float) })
	}
}

// Denormal floats and those next to the least: few bits, and few digits.
func TestSH1LeastOnes(t *testing.T) {
	for _, f := range formats {
		for float := uint64(1); float < 1500; float++ {
			f.holdDigits(t, float)
		}
	}
}

// Floats of each count of digits, up to the most.
func TestSH1EveryCount(t *testing.T) {
	c := chance(1)
	for _, f := range formats {
		var seen [18]int
		for count := 1; count <= f.most; count++ {
			for range 3000 {
				float := f.read(api.Dec{Digits: c.digits(count), Point: c.within(-40, 38)})
				if float == 0 || float >= f.inf() {
					continue
				}
				n := len(f.library(t, float).Digits)
				if seen[n] < 60 {
					seen[n]++
					f.holdDigits(t, float)
				}
			}
			if seen[count] == 0 {
				t.Errorf("no float of %d has %d digits", f.size, count)
			}
		}
	}
}

// Where several numbers have the fewest digits, the nearest is told, be it the least, the greatest or one between.
func TestSH1NearestOfSeveral(t *testing.T) {
	for _, f := range formats {
		var least, greatest, between int
		f.everyKind(2000, func(float uint64) {
			r := f.truth(float)
			list, n := r.fewest()
			if len(list) == 1 {
				return
			}
			best := r.best(t, list, n)
			switch best {
			case list[0]:
				least++
			case list[len(list)-1]:
				greatest++
			default:
				between++
			}
			wantDigits(t, float, f.size, decimal(best, places), nil)
		})
		if least < 50 || greatest < 50 || between < 50 {
			t.Errorf("size %d: too few of a kind: %d, %d, %d", f.size, least, greatest, between)
		}
	}
}

// Half way between two numbers with the fewest digits: whole numbers and one or three quarters more, where floats lie a quarter apart.
func TestSH1EvenOfTwo(t *testing.T) {
	for _, f := range formats {
		quarters := f.one() + uint64(f.bits-3)*f.hidden()
		up, down := 0, 0
		for i := range uint64(400) {
			float := quarters + 2*i + 1
			r := f.truth(float)
			list, n := r.fewest()
			if len(list) != 2 || r.far(list[0]).Cmp(r.far(list[1])) != 0 {
				t.Fatalf("%#x of %d does not lie half way between two", float, f.size)
			}
			if even(list[1], n) {
				up++
				wantDigits(t, float, f.size, decimal(list[1], places), nil)
			} else {
				down++
				wantDigits(t, float, f.size, decimal(list[0], places), nil)
			}
		}
		if up != 200 || down != 200 {
			t.Errorf("size %d: %d up, %d down", f.size, up, down)
		}
	}
}

// An end that has few digits itself counts for the float whose last bit is 0, and not for the other one.
func TestSH1EndsThemselves(t *testing.T) {
	for _, f := range formats {
		low, high := 0, 0
		for digits := uint64(1); digits < 1000; digits++ {
			for point := -30; point < 39; point++ {
				end := api.Dec{Digits: strconv.FormatUint(digits, 10), Point: point}
				if digits%10 == 0 {
					continue
				}
				even := f.read(end)
				if even%2 != 0 || even == 0 || even >= f.inf() {
					continue
				}
				r := f.truth(even)
				switch end {
				case decimal(r.low, places):
					low++
					f.holdEnd(t, end, even, even-1)
				case decimal(r.high, places):
					high++
					f.holdEnd(t, end, even, even+1)
				}
			}
		}
		if low < 10 || high < 10 {
			t.Errorf("size %d: too few ends: %d, %d", f.size, low, high)
		}
	}
}

// holdEnd asks that a number where two intervals meet is the even float's, as its digits or with as few, and not the odd one's.
func (f format) holdEnd(t *testing.T, end api.Dec, even, odd uint64) {
	t.Helper()
	f.holdDigits(t, even)
	f.holdDigits(t, odd)
	if n, err := Count(even, f.size); n > len(end.Digits) || err != nil {
		t.Errorf("Count(%#x, %d): %d, %v, but %s is an end of it", even, f.size, n, err, told(end))
	}
	if d, err := Digits(odd, f.size); d == end || len(d.Digits) <= len(end.Digits) || err != nil {
		t.Errorf("Digits(%#x, %d): %s, %v, but %s is not its", odd, f.size, told(d), err, told(end))
	}
}

// Above a power of two an interval reaches twice as far as below.
func TestSH1Lopsided(t *testing.T) {
	for _, f := range formats {
		out := 0
		for float := f.hidden(); float < f.inf(); float += f.hidden() {
			f.holdDigits(t, float)
			r := f.truth(float)
			_, n := r.fewest()
			unit := step(r.value, n)
			down := new(big.Int).Quo(r.value, unit)
			down.Mul(down, unit)
			up := new(big.Int).Add(down, unit)
			if r.far(down).Cmp(r.far(up)) < 0 && !r.holds(down) {
				out++
				wantDigits(t, float, f.size, decimal(up, places), nil)
			}
		}
		if out == 0 {
			t.Errorf("size %d: the nearest number lies in each time", f.size)
		}
	}
}

// The library tells the same digits.
func TestSH1AsTheLibrary(t *testing.T) {
	for _, f := range formats {
		f.everyKind(20000, func(float uint64) {
			wantDigits(t, float, f.size, f.library(t, float), nil)
		})
	}
}
