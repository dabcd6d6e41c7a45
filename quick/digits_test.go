package quick

import (
	"testing"

	"numeral/api"
	"numeral/dec"
	"numeral/interval"
	"numeral/shortest"
)

func TestQU1Shortest(t *testing.T) {
	for _, c := range []struct {
		float  uint64
		size   int
		digits string
		point  int
	}{
		{0x3ff8000000000000, 64, "15", 1}, {0x4059000000000000, 64, "1", 3}, {0x3fc00000, 32, "15", 1}, {0x42c80000, 32, "1", 3},
		// The least floats, the greatest denormal ones, the least that are none, the greatest.
		{1, 64, "5", -323}, {2, 64, "1", -322}, {3, 64, "15", -322}, {1, 32, "1", -44}, {2, 32, "3", -44}, {3, 32, "4", -44}, {7, 32, "1", -43},
		{0x000fffffffffffff, 64, "2225073858507201", -307}, {0x0010000000000000, 64, "22250738585072014", -307}, {0x0010000000000001, 64, "2225073858507202", -307},
		{0x007fffff, 32, "11754942", -37}, {0x00800000, 32, "11754944", -37}, {0x00800001, 32, "11754945", -37},
		{0x7f7fffff, 32, "34028235", 39}, {0x7f7ffffe, 32, "34028233", 39}, {0x7fefffffffffffff, 64, "17976931348623157", 309}, {0x7feffffffffffffe, 64, "17976931348623155", 309},
		// 1 and its neighbours, and other powers of two with theirs.
		{0x3ff0000000000000, 64, "1", 1}, {0x3fefffffffffffff, 64, "9999999999999999", 0}, {0x3ff0000000000001, 64, "10000000000000002", 1}, {0x3f800000, 32, "1", 1}, {0x3f7fffff, 32, "99999994", 0}, {0x3f800001, 32, "10000001", 1},
		{0x4b7fffff, 32, "16777215", 8}, {0x4b800000, 32, "16777216", 8}, {0x4b800001, 32, "16777218", 8}, {0x433fffffffffffff, 64, "9007199254740991", 16}, {0x4340000000000000, 64, "9007199254740992", 16}, {0x4340000000000001, 64, "9007199254740994", 16},
		// The nearest number with so many digits is below these powers of two, and out; one farther off above them is in.
		{0x0060000000000000, 64, "7120236347223045", -306}, {0x0f800000, 32, "12621775", -28},
		{0x3fb999999999999a, 64, "1", 0}, {0x3fd3333333333333, 64, "3", 0}, {0x3dcccccd, 32, "1", 0}, {0x40091eb851eb851f, 64, "314", 1}, {0x400921fb54442d18, 64, "3141592653589793", 1}, {0x40490fdb, 32, "31415927", 1},
		// As many digits as a float may need.
		{0x3fd3333333333334, 64, "30000000000000004", 0}, {0x41201b88, 32, "100067215", 2}, {0x4cbece2f, 32, "100036984", 9},
		// Ten to the 23 is half way between these two, and belongs to the one whose last bit is 0; so does 5 times ten to the 22.
		{0x44b52d02c7e14af6, 64, "1", 24}, {0x44b52d02c7e14af7, 64, "10000000000000001", 24}, {0x44a52d02c7e14af6, 64, "5", 23}, {0x44a52d02c7e14af7, 64, "50000000000000004", 23},
		// Half way between two: the even one.
		{0x4a000001, 32, "20971522", 7}, {0x4a000003, 32, "20971528", 7}, {0x4310000000000001, 64, "11258999068426242", 16}, {0x4310000000000003, 64, "11258999068426248", 16},
	} {
		f := formats[c.size/64]
		for _, float := range f.signed(c.float) {
			f.wantOrNotSure(t, float, api.Dec{Digits: c.digits, Point: c.point})
		}
	}
}

func TestQU1EveryKind(t *testing.T) {
	for _, f := range formats {
		f.everyKind(10000, func(float uint64) { f.hold(t, float) })
	}
}

// Denormal floats and those next to the least: few bits, and few digits.
func TestQU1LeastOnes(t *testing.T) {
	for _, f := range formats {
		for float := uint64(1); float < 1500; float++ {
			f.hold(t, float)
		}
		for about := f.hidden() - 300; about < f.hidden()+300; about++ {
			f.hold(t, about)
		}
	}
}

// Floats of few digits, and those next to them: of each count of digits, up to the most, and everywhere.
func TestQU1EveryCount(t *testing.T) {
	c := chance(3)
	for _, f := range formats {
		var seen [18]int
		power := uint64(1)
		for count := 1; count <= f.digits; count++ {
			power *= 10
			for range 400 {
				n := power/10 + c.word()%(power-power/10)
				e := c.within(-330, 300)
				if f.size == 32 {
					e = c.within(-45, 38)
				}
				float := f.read(decimal(n, e-count))
				for _, float := range []uint64{float - 1, float, float + 1} {
					if float == 0 || float >= f.inf() {
						continue
					}
					if f.hold(t, float) {
						seen[len(f.library(t, float).Digits)]++
					}
				}
			}
		}
		for count := 1; count <= f.digits; count++ {
			if seen[count] < 30 {
				t.Errorf("size %d: sure of %d floats of %d digits", f.size, seen[count], count)
			}
		}
	}
}

// digitsOf are a float's, as layer 20 tells them, and as a whole number with an exponent.
func (f format) digitsOf(t *testing.T, float uint64) (api.Dec, uint64, int) {
	t.Helper()
	d, err := shortest.Digits(float, f.size)
	if err != nil {
		t.Fatal(err)
	}
	n, e := number(t, d)
	return d, n, e
}

// in says whether a number lies in a float's interval.
func (f format) in(t *testing.T, d api.Dec, float uint64) bool {
	t.Helper()
	lies, err := interval.In(d, float, f.size)
	if err != nil {
		t.Fatalf("In(%s, %#x, %d): %v", told(d), float, f.size, err)
	}
	return lies
}

// Where several numbers have the fewest digits, the nearest is told, be it the least of them, the greatest or one between.
func TestQU1NearestOfSeveral(t *testing.T) {
	for _, f := range formats {
		var least, greatest, between int
		f.everyKind(6000, func(float uint64) {
			_, n, e := f.digitsOf(t, float)
			below, above := f.in(t, decimal(n-1, e), float), f.in(t, decimal(n+1, e), float)
			if !below && !above || !f.hold(t, float) {
				return
			}
			switch {
			case !below:
				least++
			case !above:
				greatest++
			default:
				between++
			}
		})
		if least < 100 || greatest < 100 || between < 100 {
			t.Errorf("size %d: sure of too few of a kind: %d, %d, %d", f.size, least, greatest, between)
		}
	}
}

// Half way between two numbers with the fewest digits: whole numbers and one or three quarters more, where floats lie a quarter apart.
func TestQU1EvenOfTwo(t *testing.T) {
	for _, f := range formats {
		quarters := f.power(f.bits - 3)
		sure := 0
		for i := range uint64(2000) {
			n := uint64(1)<<(f.bits-3) + i
			for _, c := range []struct{ quarter, tenth uint64 }{{1, 2}, {3, 8}} {
				float, want := quarters+4*i+c.quarter, decimal(10*n+c.tenth, -1)
				if f.hold(t, float) && f.wantOrNotSure(t, float, want) {
					sure++
				}
			}
		}
		if sure < 3600 {
			t.Errorf("size %d: sure of %d", f.size, sure)
		}
	}
}

// An end that has few digits itself counts for the float whose last bit is 0, and not for the other one.
func TestQU1EndsThemselves(t *testing.T) {
	for _, f := range formats {
		low, high := 0, 0
		for n := uint64(1); n < 1000; n++ {
			for e := -30; e < 39; e++ {
				end := decimal(n, e)
				even := f.read(end)
				if n%10 == 0 || even%2 != 0 || even == 0 || even >= f.inf() {
					continue
				}
				lowEnd, highEnd, _, err := interval.Bounds(even, f.size)
				switch {
				case err != nil:
					t.Fatal(err)
				case end == lowEnd && f.holdEnd(t, end, even, even-1):
					low++
				case end == highEnd && f.holdEnd(t, end, even, even+1):
					high++
				}
			}
		}
		if low < 10 || high < 10 {
			t.Errorf("size %d: sure of too few: %d, %d", f.size, low, high)
		}
	}
}

// holdEnd asks that a number where two intervals meet is the even float's, as its digits or with as few, and not the odd one's. It tells whether both were sure.
func (f format) holdEnd(t *testing.T, end api.Dec, even, odd uint64) bool {
	t.Helper()
	if !f.hold(t, even) || !f.hold(t, odd) {
		return false
	}
	if d, _, _ := Shortest(even, f.size); len(d.Digits) > len(end.Digits) {
		t.Errorf("Shortest(%#x, %d): %s, but %s is an end of it", even, f.size, told(d), told(end))
	}
	if d, _, _ := Shortest(odd, f.size); d == end || len(d.Digits) <= len(end.Digits) {
		t.Errorf("Shortest(%#x, %d): %s, but %s is not its", odd, f.size, told(d), told(end))
	}
	return true
}

// Above a power of two an interval reaches twice as far as below: so what is nearest may be out, and a number farther off be told.
func TestQU1Lopsided(t *testing.T) {
	for _, f := range formats {
		out := 0
		for float := f.hidden(); float < f.inf(); float += f.hidden() {
			for _, float := range []uint64{float - 2, float - 1, float, float + 1, float + 2} {
				f.hold(t, float)
			}
			value, err := interval.Exact(float, f.size)
			if err != nil {
				t.Fatal(err)
			}
			want, _, _ := f.digitsOf(t, float)
			near, err := dec.Round(value, len(want.Digits))
			if err != nil {
				t.Fatal(err)
			}
			if near != want && !f.in(t, near, float) && f.hold(t, float) {
				out++
			}
		}
		if out == 0 {
			t.Errorf("size %d: it is not sure where the nearest number is out", f.size)
		}
	}
}
