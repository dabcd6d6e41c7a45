package fixed

import (
	"math/big"
	"strconv"
	"testing"

	"numeral/api"
	"numeral/dec"
)

// theorem is what is to hold of all that is told of one value, from few digits to many.
type theorem struct {
	value *big.Int
	// far is how far off what was told last is; nil where nothing was.
	far *big.Int
}

// next asks it of what is told next, whose last place has that unit: all says whether the value has no digit behind it.
func (h *theorem) next(t *testing.T, d api.Dec, unit *big.Int, all bool) {
	t.Helper()
	number := units(t, d)
	far := new(big.Int).Sub(number, h.value)
	far.Abs(far)
	count, rest := new(big.Int).QuoRem(number, unit, new(big.Int))
	half := new(big.Int).Lsh(far, 1).Cmp(unit)
	switch {
	case dec.Valid(d) != nil || d.Cut || rest.Sign() != 0:
		t.Errorf("%s is no number with so many digits", told(d))
	case half > 0:
		t.Errorf("%s is more than half of a unit from %s", told(d), told(decimal(h.value)))
	case half == 0 && count.Bit(0) == 1:
		t.Errorf("%s is half of a unit from %s, and odd", told(d), told(decimal(h.value)))
	case all != (far.Sign() == 0):
		t.Errorf("%s is told of %s; to all of its digits: %v", told(d), told(decimal(h.value)), all)
	case h.far != nil && far.Cmp(h.far) > 0:
		t.Errorf("%s is farther from %s than what was told to fewer digits", told(d), told(decimal(h.value)))
	}
	h.far = far
}

// hold asks it of a float, to more and more digits, and to more and more places: all of them, or some.
func (f format) hold(t *testing.T, float uint64, every bool) {
	t.Helper()
	value := f.value(float &^ f.sign())
	digits, last := lasts(value)
	h := theorem{value: value}
	for n := 1; n <= mostDigits; n = after(n, digits, every) {
		d, err := Digits(float, f.size, n)
		if err != nil || len(d.Digits) > n {
			t.Errorf("Digits(%#x, %d, %d): %s, %v", float, f.size, n, told(d), err)
		}
		h.next(t, d, unitOfDigit(value, n), n >= digits)
	}
	h.far = nil
	for n := 0; n <= mostPlaces; n = after(n, last, every) {
		d, err := Places(float, f.size, n)
		if err != nil || len(d.Digits)-d.Point > n && d != (api.Dec{}) {
			t.Errorf("Places(%#x, %d, %d): %s, %v", float, f.size, n, told(d), err)
		}
		h.next(t, d, unitOfPlace(n), n >= last)
	}
}

// lasts are how many digits a value has, and how many places.
func lasts(value *big.Int) (int, int) {
	if value.Sign() == 0 {
		return 0, 0
	}
	behind := noughts(value)
	return length(value) - behind, max(0, places-behind)
}

// after is the next number: one more among the first ones and about the last that counts, or if every one is asked for, and else some more.
func after(n, last int, every bool) int {
	if every || n < 22 || last-3 <= n && n <= last {
		return n + 1
	}
	next := n + 41
	if n < last-3 && next > last-3 {
		return last - 3
	}
	return next
}

func TestFI3EveryKind(t *testing.T) {
	c := chance(5)
	for _, f := range formats {
		f.everyKind(2000, func(float uint64) {
			// Few of size 64, where so many values are long.
			if f.size == 32 || float < 100 || c.within(0, 3) == 0 {
				f.hold(t, f.signed(float)[c.within(0, 1)], false)
			}
		})
	}
}

// All counts, of floats at the edges.
func TestFI3EveryCount(t *testing.T) {
	for _, f := range formats {
		hidden := f.hidden()
		for _, float := range []uint64{0, 1, 2, 3, hidden - 1, hidden, hidden + 1, 2*hidden - 1, f.one() - 1, f.one(), f.one() + 1, f.one() - hidden, f.one() + hidden/2, f.read("0.1"), f.read("9.5"), f.read("0.05"), f.read("2.5"), f.read("1e22"), f.read("1e-30"), f.greatest() - 1, f.greatest()} {
			for _, float := range f.signed(float) {
				f.hold(t, float, true)
			}
		}
	}
}

// Values that are half way at some place: odd numbers of small units.
func TestFI3Halves(t *testing.T) {
	for _, f := range formats {
		for odd := 1; odd < 800; odd += 2 {
			for _, exp := range []string{"p-9", "p-3", "p-2", "p-1", "p0"} {
				f.hold(t, f.read("0x"+strconv.FormatInt(int64(odd), 16)+exp), false)
			}
		}
	}
}

// To so many digits a value is told as to the places that they end at.
func TestFI3DigitsArePlaces(t *testing.T) {
	c := chance(6)
	for _, f := range formats {
		f.everyKind(1500, func(float uint64) {
			value, _ := Digits(float, f.size, mostDigits)
			for _, n := range []int{1, 2, c.within(3, 17), c.within(3, mostDigits)} {
				behind := n - value.Point
				if float == 0 || behind < 0 || behind > mostPlaces {
					continue
				}
				d, err := Digits(float, f.size, n)
				wantPlaces(t, float, f.size, behind, d, err)
			}
		})
	}
}
