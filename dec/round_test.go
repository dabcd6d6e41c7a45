package dec

import (
	"math"
	"math/big"
	"testing"

	"numeral/api"
)

// roundings are the three calls, with how many digits of a number that is Cut each must know behind the last place.
func roundings() map[string]struct {
	call   func(d api.Dec, n int) (api.Dec, error)
	behind int
} {
	type row = struct {
		call   func(d api.Dec, n int) (api.Dec, error)
		behind int
	}
	return map[string]row{"Round": {Round, 1}, "Down": {Down, 0}, "Up": {Up, 0}}
}

func TestRoundDownUp(t *testing.T) {
	for _, c := range []struct {
		d               api.Dec
		n               int
		near, down, top api.Dec
	}{
		{dec("125", 1), 2, dec("12", 1), dec("12", 1), dec("13", 1)}, {dec("135", 1), 2, dec("14", 1), dec("13", 1), dec("14", 1)}, {dec("95", 0), 1, dec("1", 1), dec("9", 0), dec("1", 1)},
		{dec("5", 0), 0, api.Dec{}, api.Dec{}, dec("1", 1)}, {dec("6", 0), 0, dec("1", 1), api.Dec{}, dec("1", 1)}, {dec("51", 0), 0, dec("1", 1), api.Dec{}, dec("1", 1)}, {dec("49", 0), 0, api.Dec{}, api.Dec{}, dec("1", 1)}, {dec("1", -5), 0, api.Dec{}, api.Dec{}, dec("1", -4)},
		{api.Dec{}, 0, api.Dec{}, api.Dec{}, api.Dec{}}, {api.Dec{}, 5, api.Dec{}, api.Dec{}, api.Dec{}}, {api.Dec{}, api.MaxDigits, api.Dec{}, api.Dec{}, api.Dec{}},
		// So many digits as there are, and more: the number itself.
		{dec("125", 1), 3, dec("125", 1), dec("125", 1), dec("125", 1)}, {dec("125", 1), 4, dec("125", 1), dec("125", 1), dec("125", 1)}, {dec("125", 1), api.MaxDigits, dec("125", 1), dec("125", 1), dec("125", 1)}, {dec("9", maxPoint), 1, dec("9", maxPoint), dec("9", maxPoint), dec("9", maxPoint)},
		{dec(nines, maxPoint), api.MaxDigits, dec(nines, maxPoint), dec(nines, maxPoint), dec(nines, maxPoint)},
		// Half way, just below and just above, with an even and an odd digit and a nought ahead.
		{dec("25", 0), 1, dec("2", 0), dec("2", 0), dec("3", 0)}, {dec("35", 0), 1, dec("4", 0), dec("3", 0), dec("4", 0)}, {dec("24999", 0), 1, dec("2", 0), dec("2", 0), dec("3", 0)}, {dec("25001", 0), 1, dec("3", 0), dec("2", 0), dec("3", 0)}, {dec("34999", 0), 1, dec("3", 0), dec("3", 0), dec("4", 0)},
		{dec("105", 0), 2, dec("1", 0), dec("1", 0), dec("11", 0)}, {dec("1051", 0), 2, dec("11", 0), dec("1", 0), dec("11", 0)}, {dec("1005", 3), 3, dec("1", 3), dec("1", 3), dec("101", 3)}, {dec("985", 0), 2, dec("98", 0), dec("98", 0), dec("99", 0)},
		// Noughts behind are dropped.
		{dec("1001", 0), 3, dec("1", 0), dec("1", 0), dec("101", 0)}, {dec("12003", 0), 4, dec("12", 0), dec("12", 0), dec("1201", 0)},
		// Rows of nines.
		{dec("995", 0), 2, dec("1", 1), dec("99", 0), dec("1", 1)}, {dec("1995", 0), 3, dec("2", 0), dec("199", 0), dec("2", 0)}, {dec("1994", 0), 3, dec("199", 0), dec("199", 0), dec("2", 0)}, {dec("9994", 0), 3, dec("999", 0), dec("999", 0), dec("1", 1)}, {dec(nines, -7), 799, dec("1", -6), dec(nines[1:], -7), dec("1", -6)}, {dec(nines, -7), 0, dec("1", -6), api.Dec{}, dec("1", -6)},
		{dec(nines, maxPoint-1), 1, dec("1", maxPoint), dec("9", maxPoint-1), dec("1", maxPoint)}, {dec("99", -maxPoint), 1, dec("1", 1-maxPoint), dec("9", -maxPoint), dec("1", 1-maxPoint)},
		{dec(wideApart, 0), 799, dec("1", 0), dec("1", 0), dec("1"+zeros[3:]+"1", 0)},
	} {
		if d, err := Round(c.d, c.n); d != c.near || err != nil {
			t.Errorf("Round(%v, %d) = %v, %v", c.d, c.n, d, err)
		}
		if d, err := Down(c.d, c.n); d != c.down || err != nil {
			t.Errorf("Down(%v, %d) = %v, %v", c.d, c.n, d, err)
		}
		if d, err := Up(c.d, c.n); d != c.top || err != nil {
			t.Errorf("Up(%v, %d) = %v, %v", c.d, c.n, d, err)
		}
	}
}

func TestRoundDownUpOfWhatIsCut(t *testing.T) {
	for _, c := range []struct {
		d               api.Dec
		n               int
		near, down, top api.Dec
	}{
		// What is behind decides the half, but never fills one up.
		{cut("25", 0), 1, dec("3", 0), dec("2", 0), dec("3", 0)}, {cut("250", 0), 1, dec("3", 0), dec("2", 0), dec("3", 0)}, {cut("24", 0), 1, dec("2", 0), dec("2", 0), dec("3", 0)}, {cut("2499", 0), 1, dec("2", 0), dec("2", 0), dec("3", 0)}, {cut("35", 0), 1, dec("4", 0), dec("3", 0), dec("4", 0)},
		{cut("5", 0), 0, dec("1", 1), api.Dec{}, dec("1", 1)}, {cut("4", 0), 0, api.Dec{}, api.Dec{}, dec("1", 1)}, {cut("10", 0), 1, dec("1", 0), dec("1", 0), dec("2", 0)}, {cut("1000", 0), 3, dec("1", 0), dec("1", 0), dec("101", 0)}, {cut("1000", 0), 2, dec("1", 0), dec("1", 0), dec("11", 0)},
		{cut("99", 0), 1, dec("1", 1), dec("9", 0), dec("1", 1)}, {cut("94", 0), 1, dec("9", 0), dec("9", 0), dec("1", 1)}, {cut(nines, 0), 799, dec("1", 1), dec(nines[1:], 0), dec("1", 1)},
	} {
		if d, err := Round(c.d, c.n); d != c.near || err != nil {
			t.Errorf("Round(%v, %d) = %v, %v", c.d, c.n, d, err)
		}
		if d, err := Down(c.d, c.n); d != c.down || err != nil {
			t.Errorf("Down(%v, %d) = %v, %v", c.d, c.n, d, err)
		}
		if d, err := Up(c.d, c.n); d != c.top || err != nil {
			t.Errorf("Up(%v, %d) = %v, %v", c.d, c.n, d, err)
		}
	}
	// At the number of its digits Down and Up still know.
	for _, c := range []struct{ d, down, top api.Dec }{
		{cut("12", 0), dec("12", 0), dec("13", 0)}, {cut("120", 0), dec("12", 0), dec("121", 0)}, {cut("1000", 5), dec("1", 5), dec("1001", 5)}, {cut("9", 0), dec("9", 0), dec("1", 1)}, {cut("199", 0), dec("199", 0), dec("2", 0)},
		{cut(nines, 3), dec(nines, 3), dec("1", 4)}, {cut("1"+zeros[1:], 3), dec("1", 3), dec(wideApart, 3)}, {cut("1", maxPoint), dec("1", maxPoint), dec("2", maxPoint)},
	} {
		n := len(c.d.Digits)
		if d, err := Down(c.d, n); d != c.down || err != nil {
			t.Errorf("Down(%v, %d) = %v, %v", c.d, n, d, err)
		}
		if d, err := Up(c.d, n); d != c.top || err != nil {
			t.Errorf("Up(%v, %d) = %v, %v", c.d, n, d, err)
		}
	}
}

func TestPlacesThatCannotBe(t *testing.T) {
	for name, r := range roundings() {
		for _, d := range rights() {
			for _, n := range []int{math.MinInt, -1, api.MaxDigits + 1, math.MaxInt} {
				if got, err := r.call(d, n); got != (api.Dec{}) || err != api.ErrArg {
					t.Errorf("%s(%v, %d) = %v, %v", name, d, n, got, err)
				}
			}
			for _, n := range []int{0, api.MaxDigits} {
				if _, err := r.call(d, n); !d.Cut && err == api.ErrArg {
					t.Errorf("%s(%v, %d): %v", name, d, n, err)
				}
			}
			if !d.Cut {
				continue
			}
			// The first n of which not enough is known.
			for _, n := range []int{len(d.Digits) + 1 - r.behind, len(d.Digits) + 2, api.MaxDigits} {
				if n == len(d.Digits)-r.behind {
					continue
				}
				if got, err := r.call(d, n); got != (api.Dec{}) || err != api.ErrArg {
					t.Errorf("%s(%v, %d) = %v, %v", name, d, n, got, err)
				}
			}
			if _, err := r.call(d, len(d.Digits)-r.behind); err == api.ErrArg {
				t.Errorf("%s(%v, %d): %v", name, d, len(d.Digits)-r.behind, err)
			}
		}
	}
}

func TestRoundPastTheGreatestPoint(t *testing.T) {
	for _, c := range []struct {
		d api.Dec
		n int
	}{{dec("9", maxPoint), 0}, {dec("95", maxPoint), 1}, {dec(nines, maxPoint), 1}, {dec(nines, maxPoint), 799}, {cut("99", maxPoint), 1}, {cut("6", maxPoint), 0}} {
		if d, err := Round(c.d, c.n); d != (api.Dec{}) || err != api.ErrRange {
			t.Errorf("Round(%v, %d) = %v, %v", c.d, c.n, d, err)
		}
		if d, err := Up(c.d, c.n); d != (api.Dec{}) || err != api.ErrRange {
			t.Errorf("Up(%v, %d) = %v, %v", c.d, c.n, d, err)
		}
		if d, err := Down(c.d, c.n); err != nil || d.Point > maxPoint {
			t.Errorf("Down(%v, %d) = %v, %v", c.d, c.n, d, err)
		}
	}
	for _, c := range []struct {
		d api.Dec
		n int
	}{{dec("1", maxPoint), 0}, {dec("91", maxPoint), 1}, {cut("94", maxPoint), 1}} {
		if d, err := Up(c.d, c.n); d != (api.Dec{}) || err != api.ErrRange {
			t.Errorf("Up(%v, %d) = %v, %v", c.d, c.n, d, err)
		}
		// The nearest lies below, and may be.
		if d, err := Round(c.d, c.n); err != nil || d != below(c.d, c.n) {
			t.Errorf("Round(%v, %d) = %v, %v", c.d, c.n, d, err)
		}
	}
	if d, err := Up(cut("99", maxPoint), 2); d != (api.Dec{}) || err != api.ErrRange {
		t.Errorf("Up at all digits: %v, %v", d, err)
	}
	// A wrong n is told ahead of the point.
	if d, err := Up(dec("9", maxPoint), -1); d != (api.Dec{}) || err != api.ErrArg {
		t.Errorf("Up to -1 digits: %v, %v", d, err)
	}
	if d, err := Round(cut("9", maxPoint), 1); d != (api.Dec{}) || err != api.ErrArg {
		t.Errorf("Round of what is not known: %v, %v", d, err)
	}
}

// nearest is the multiple of step nearest to x, half way the even one.
func nearest(x, step int) int {
	q, rest := x/step, x%step
	if 2*rest > step || 2*rest == step && q%2 == 1 {
		q++
	}
	return q * step
}

func TestRoundingsAgainstAllValues(t *testing.T) {
	good := func(d, got api.Dec, err error, n, want int) {
		t.Helper()
		if err != nil || Valid(got) != nil || got.Cut || scaled(got) != want {
			t.Fatalf("%v to %d: %v, %v", d, n, got, err)
		}
	}
	for _, d := range small() {
		for n := range 6 {
			step := power(d.Point - n + scale)
			for _, x := range values(d) {
				if !d.Cut || n < len(d.Digits) {
					got, err := Round(d, n)
					good(d, got, err, n, nearest(x, step))
				}
				if !d.Cut || n <= len(d.Digits) {
					got, err := Down(d, n)
					good(d, got, err, n, x/step*step)
					got, err = Up(d, n)
					good(d, got, err, n, (x+step-1)/step*step)
				}
			}
		}
	}
}

// DC6, of long numbers: by great numbers, and by the calls alone.
func TestRoundingsOfLongNumbers(t *testing.T) {
	c := chance(2)
	for i := range 3000 {
		digits := c.digits(1 + c.below(api.MaxDigits))
		d := api.Dec{Digits: digits, Point: c.below(100) - 50, Cut: i%3 == 0}
		n := c.below(len(digits))
		if i%5 == 0 && n > 0 {
			// Half way.
			d.Digits, d.Cut = digits[:n]+"5", i%2 == 0
		}
		down, err := Down(d, n)
		top, err2 := Up(d, n)
		near, err3 := Round(d, n)
		if err != nil || err2 != nil || err3 != nil {
			t.Fatalf("%v to %d: %v, %v, %v", d, n, err, err2, err3)
		}
		least, _ := Compare(down, d)
		most, _ := Compare(top, d)
		if least != -1 || most != 1 {
			t.Fatalf("Down %v and Up %v of %v to %d: %d, %d", down, top, d, n, least, most)
		}
		if want := nearOf(d, n, down, top); near != want {
			t.Fatalf("Round(%v, %d) = %v, not %v", d, n, near, want)
		}
	}
}

// nearOf is that of both ends which is nearer to a number with more than n digits, by a great number that is twice its rest.
func nearOf(d api.Dec, n int, down, top api.Dec) api.Dec {
	rest, _ := new(big.Int).SetString(d.Digits[n:]+"0", 10)
	if d.Cut {
		rest.Add(rest, big.NewInt(1))
	}
	step := new(big.Int).Exp(big.NewInt(10), big.NewInt(int64(len(d.Digits)-n+1)), nil)
	odd := n > 0 && (d.Digits[n-1]-'0')%2 == 1
	side := rest.Add(rest, rest).Cmp(step)
	if side > 0 || side == 0 && odd {
		return top
	}
	return down
}
