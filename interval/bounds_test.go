package interval

import (
	"math/big"
	"testing"

	"numeral/api"
	"numeral/dec"
)

func TestIV1Bounds(t *testing.T) {
	const (
		halfLeast = "700649232162408535461864791644958065640130970938257885878534141944895541342930300743319094181060791015625"
		nearThree = "2101947696487225606385594374934874196920392912814773657635602425834686624028790902229957282543182373046875"
	)
	for _, c := range []struct {
		float     uint64
		size      int
		low, high api.Dec
		closed    bool
	}{
		{0x3f800000, 32, api.Dec{Digits: "9999999701976776123046875"}, api.Dec{Digits: "1000000059604644775390625", Point: 1}, true},
		{0xbf800000, 32, api.Dec{Digits: "9999999701976776123046875"}, api.Dec{Digits: "1000000059604644775390625", Point: 1}, true},
		{0, 32, api.Dec{}, api.Dec{Digits: halfLeast, Point: -45}, true},
		{1 << 31, 32, api.Dec{}, api.Dec{Digits: halfLeast, Point: -45}, true},
		{1, 32, api.Dec{Digits: halfLeast, Point: -45}, api.Dec{Digits: nearThree, Point: -44}, false},
		{0x80000001, 32, api.Dec{Digits: halfLeast, Point: -45}, api.Dec{Digits: nearThree, Point: -44}, false},
		{0x4b000000, 32, api.Dec{Digits: "838860775", Point: 7}, api.Dec{Digits: "83886085", Point: 7}, true},
		{0x4b000001, 32, api.Dec{Digits: "83886085", Point: 7}, api.Dec{Digits: "83886095", Point: 7}, false},
		{0x4b7fffff, 32, api.Dec{Digits: "167772145", Point: 8}, api.Dec{Digits: "167772155", Point: 8}, false},
		{0x4b800000, 32, api.Dec{Digits: "167772155", Point: 8}, api.Dec{Digits: "16777217", Point: 8}, true},
		{0x7f7fffff, 32, api.Dec{Digits: "340282336497324057985868971510891282432", Point: 39}, api.Dec{Digits: "340282356779733661637539395458142568448", Point: 39}, false},
		{0x4340000000000000, 64, api.Dec{Digits: "90071992547409915", Point: 16}, api.Dec{Digits: "9007199254740993", Point: 16}, true},
		{0x4340000000000001, 64, api.Dec{Digits: "9007199254740993", Point: 16}, api.Dec{Digits: "9007199254740995", Point: 16}, false},
		{0x433fffffffffffff, 64, api.Dec{Digits: "90071992547409905", Point: 16}, api.Dec{Digits: "90071992547409915", Point: 16}, false},
		// Ten to the 23 is half way between these two.
		{0x44b52d02c7e14af6, 64, api.Dec{Digits: "99999999999999983222784", Point: 23}, api.Dec{Digits: "1", Point: 24}, true},
		{0x44b52d02c7e14af7, 64, api.Dec{Digits: "1", Point: 24}, api.Dec{Digits: "100000000000000016777216", Point: 24}, false},
	} {
		wantBounds(t, c.float, c.size, c.low, c.high, c.closed, nil)
	}
}

// Both ends are half way to the neighbours, as whole numbers tell it, digit for digit.
func TestIV1BoundsOfEveryKind(t *testing.T) {
	for _, f := range formats {
		f.everyKind(4000, func(float uint64) {
			low, high := f.ends(float)
			for _, float := range f.signed(float) {
				wantBounds(t, float, f.size, units(low), units(high), float%2 == 0, nil)
			}
			for _, x := range []*big.Int{low, high} {
				if d := units(x); dec.Valid(d) != nil || order(d, x) != 0 {
					t.Errorf("%#x of %d: what it is held against, %s, is wrong", float, f.size, told(d))
				}
			}
		})
	}
}

// Above a power of two an interval reaches twice as far as below; elsewhere, of denormal floats too, as far.
func TestIV1Lopsided(t *testing.T) {
	for _, f := range formats {
		f.everyKind(2000, func(float uint64) {
			if float == 0 {
				return
			}
			low, high, _, err := Bounds(float, f.size)
			value := f.value(float)
			below := new(big.Int).Sub(value, wholeUnits(t, low))
			above := new(big.Int).Sub(wholeUnits(t, high), value)
			if float%f.hidden() == 0 && float > f.hidden() {
				below.Lsh(below, 1)
			}
			if below.Cmp(above) != 0 || below.Sign() <= 0 || err != nil {
				t.Errorf("Bounds(%#x, %d): %s below, %s above, %v", float, f.size, below, above, err)
			}
		})
	}
}

// wholeUnits is a decimal as a number of units, which it is.
func wholeUnits(t *testing.T, d api.Dec) *big.Int {
	t.Helper()
	if d.Digits == "" {
		return new(big.Int)
	}
	n, ok := new(big.Int).SetString(d.Digits, 10)
	exp := d.Point - len(d.Digits)
	n.Mul(n, power(10, max(0, exp))).Lsh(n, -unit)
	n, rest := n.QuoRem(n, power(10, max(0, -exp)), new(big.Int))
	if !ok || rest.Sign() != 0 {
		t.Fatalf("%s is no whole number of units", told(d))
	}
	return n
}

// What is half way to the infinity's place is no float's any more, and nothing above it.
func TestIV1BeyondTheGreatest(t *testing.T) {
	for _, f := range formats {
		_, high, closed, err := Bounds(f.most(), f.size)
		if order(high, f.half(f.most())) != 0 || closed || err != nil {
			t.Errorf("Bounds(%#x, %d): %s, %v, %v", f.most(), f.size, told(high), closed, err)
		}
		above := decimalOf(new(big.Int).Add(tens(f.half(f.most())), big.NewInt(1)), -unit)
		for _, d := range []api.Dec{high, {Digits: above.Digits[:api.MaxDigits-1] + "1", Point: above.Point}, units(f.value(f.inf())), {Digits: "1", Point: 400}, {Digits: "1", Point: api.MaxPoint}} {
			for _, float := range f.named() {
				wantIn(t, d, float, f.size, false, nil)
			}
		}
	}
}
