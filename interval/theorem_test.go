package interval

import (
	"testing"

	"numeral/api"
)

// in is In's answer, where it answers one.
func in(t *testing.T, d api.Dec, float uint64, size int) bool {
	t.Helper()
	lies, err := In(d, float, size)
	if err != nil {
		t.Fatalf("In(%s, %#x, %d): %v", told(d), float, size, err)
	}
	return lies
}

// wantAlone asks that a number lies in one float's interval, and in none of those about it or far off.
func (f format) wantAlone(t *testing.T, d api.Dec, float uint64) {
	t.Helper()
	wantIn(t, d, float, f.size, true, nil)
	for _, other := range []uint64{float - 2, float - 1, float + 1, float + 2, float ^ f.hidden(), 0, f.one(), f.most()} {
		if other != float && other <= f.most() && in(t, d, other, f.size) {
			t.Errorf("%s lies in the interval of %#x of %d, and in that of %#x", told(d), float, f.size, other)
		}
	}
}

func TestIV3OwnValue(t *testing.T) {
	for _, f := range formats {
		f.everyKind(1000, func(float uint64) {
			d, err := Exact(float, f.size)
			if err != nil {
				t.Errorf("Exact(%#x, %d): %v", float, f.size, err)
			}
			f.wantAlone(t, d, float)
		})
	}
}

// Where an interval ends, the next one begins; the number there belongs to the float whose last bit is 0.
func TestIV3NeighboursMeet(t *testing.T) {
	for _, f := range formats {
		f.everyKind(1000, func(float uint64) {
			if float == f.most() {
				return
			}
			_, end, closed, err := Bounds(float, f.size)
			begin, _, nextClosed, nextErr := Bounds(float+1, f.size)
			if end != begin || closed == nextClosed || closed != (float%2 == 0) || err != nil || nextErr != nil {
				t.Errorf("%#x of %d ends at %s, %v, %v, the next begins at %s, %v, %v", float, f.size, told(end), closed, err, told(begin), nextClosed, nextErr)
			}
			f.wantAlone(t, end, float+float%2)
		})
	}
}

// Any number lies in the interval of the float that the library reads it as, and in no other one's.
func TestIV3OneFloat(t *testing.T) {
	c := chance(3)
	for _, f := range formats {
		hold := func(d api.Dec) {
			t.Helper()
			if float := f.read(d); float < f.inf() {
				f.wantAlone(t, d, float)
				return
			}
			for _, float := range []uint64{f.most(), f.most() - 1, f.one(), 1, 0} {
				wantIn(t, d, float, f.size, false, nil)
			}
		}
		for range 1500 {
			hold(c.decimal(-330, 315))
			hold(c.decimal(-50, 45))
		}
		for _, float := range f.named() {
			for _, d := range about(f.half(float)) {
				hold(d)
			}
		}
	}
}

// Digits that lie in each: 9 of size 32, 17 of 64, all the more with greater counts.
func TestIV3DigitsEnough(t *testing.T) {
	enough := map[int]int{32: 9, 64: 17}
	for _, f := range formats {
		needed := false
		f.everyKind(8000, func(float uint64) {
			if float == 0 {
				return
			}
			for digits := enough[f.size]; digits <= 17; digits += 8 {
				wantBetween(t, float, f.size, digits, true, nil)
			}
			less, err := Between(float, f.size, enough[f.size]-1)
			needed = needed || !less && err == nil
		})
		if !needed {
			t.Errorf("no float of %d needs %d digits", f.size, enough[f.size])
		}
	}
}
