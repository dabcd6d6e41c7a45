package layout

import (
	"math"
	"math/big"
	"strconv"
	"strings"
	"testing"

	"numeral/api"
)

const layouts = "eEfgG"

// oddPrecisions may not be: just beyond the bounds, and far off.
var oddPrecisions = []int{-2, -3, -10, -1100, -1101, -1102, api.MaxPrecision + 1, api.MaxPrecision + 2, 2000, 1 << 16, 1 << 32, 1<<32 - 1, -1 << 32, 1<<63 - 2, math.MaxInt, math.MinInt, math.MinInt + 1}

// chance is a row of words that is always the same.
type chance uint64

func (c *chance) word() uint64 {
	*c = *c*6364136223846793005 + 1442695040888963407
	x := uint64(*c)
	return x ^ x>>29 ^ x<<31
}

// within is a whole number from least to most.
func (c *chance) within(least, most int) int {
	return least + int(c.word()%uint64(most-least+1))
}

// of is one of a list.
func of[T any](c *chance, list []T) T { return list[c.within(0, len(list)-1)] }

// digits are so many, neither the first nor the last one a nought.
func (c *chance) digits(count int) string {
	digits := make([]byte, count)
	for i := range digits {
		// Noughts and nines stand in rows now and then.
		digits[i] = of(c, []byte("0123456789000999"))
	}
	if count > 0 {
		digits[0], digits[count-1] = byte(c.within('1', '9')), byte(c.within('1', '9'))
	}
	return string(digits)
}

// number is one with few digits or many, its point near to them, far off, or at a bound; now and then 0.
func (c *chance) number() api.Dec {
	count := of(c, []int{c.within(0, 9), c.within(1, 20), c.within(1, 20), c.within(21, 200), c.within(201, api.MaxDigits)})
	if count == 0 {
		return api.Dec{}
	}
	point := of(c, []int{c.within(-7, 10), count + c.within(-3, 3), c.within(-3, 30), c.within(leastPoint, mostPoint), leastPoint + c.within(0, 3), mostPoint - c.within(0, 3)})
	return api.Dec{Digits: c.digits(count), Point: max(leastPoint, min(point, mostPoint))}
}

// precision is one near to a number's own, or any.
func (c *chance) precision(d api.Dec) int {
	n := len(d.Digits)
	prec := of(c, []int{-1, c.within(-1, 8), n + c.within(-3, 3), n - d.Point + c.within(-3, 3), d.Point + c.within(-3, 3), c.within(0, api.MaxPrecision), api.MaxPrecision})
	return max(-1, min(prec, api.MaxPrecision))
}

// numbers are of every kind: many counts of digits, with the point on every side of them.
func numbers() []api.Dec {
	list := []api.Dec{{}}
	c := chance(1)
	for _, count := range []int{1, 2, 3, 5, 6, 7, 8, 15, 17, 18, 40, 799, 800} {
		for _, point := range []int{leastPoint, leastPoint + 1, -400, -99, -98, -20, -10, -9, -8, -6, -5, -4, -3, -2, -1, 0, 1, 2, 3, count - 1, count, count + 1, 5, 6, 7, 8, 9, 10, 11, 21, 22, 99, 100, 101, 102, mostPoint - 1, mostPoint} {
			if point <= mostPoint {
				list = append(list, api.Dec{Digits: c.digits(count), Point: point})
			}
		}
	}
	return list
}

// precisions are those at the edges of a number, of the limits of g, and of what may be.
func precisions(d api.Dec) []int {
	list := []int{-1, 0, 1, 2, 5, 6, 7, 17, api.MaxPrecision - 1, api.MaxPrecision}
	for _, edge := range []int{len(d.Digits), len(d.Digits) - d.Point, d.Point, 2 * len(d.Digits)} {
		for prec := max(-1, edge-2); prec <= min(edge+2, api.MaxPrecision); prec++ {
			list = append(list, prec)
		}
	}
	return list
}

// told is a decimal on a line, its digits cut short.
func told(d api.Dec) string {
	digits := d.Digits
	if len(digits) > 40 {
		digits = digits[:40] + "..(" + strconv.Itoa(len(digits)) + ")"
	}
	return "0." + digits + "e" + strconv.Itoa(d.Point) + map[bool]string{true: "+"}[d.Cut]
}

// asLibrary is what the library's great numbers lay, if they are kept so exactly that what is told of them with that precision is the very digits.
func asLibrary(t *testing.T, d api.Dec, layout byte, prec int) string {
	t.Helper()
	needed := len(d.Digits) + max(prec, 0) + max(d.Point, 0) + 10
	x, _, err := big.ParseFloat("0."+d.Digits+"0e"+strconv.Itoa(d.Point), 10, uint(64+needed*10/3), big.ToNearestEven)
	if err != nil {
		t.Fatal(err)
	}
	return x.Text(layout, prec)
}

// refusedDigits is whether a number has more of them than a precision takes.
func refusedDigits(d api.Dec, layout byte, prec int) bool {
	switch {
	case prec == -1:
		return false
	case layout == 'f':
		return len(d.Digits)-d.Point > prec
	case strings.IndexByte("eE", layout) >= 0:
		return len(d.Digits) > prec+1
	}
	return len(d.Digits) > prec && len(d.Digits) > 1
}

func wantLaid(t *testing.T, neg bool, d api.Dec, layout byte, prec int, want string) {
	t.Helper()
	if s, err := Lay(neg, d, layout, prec); s != want || err != nil {
		t.Errorf("Lay(%v, %s, %q, %d): %.80q (%d bytes), %v, want %.80q (%d bytes)", neg, told(d), layout, prec, s, len(s), err, want, len(want))
	}
}

// wantBoth asks it with each sign.
func wantBoth(t *testing.T, d api.Dec, layout byte, prec int, want string) {
	t.Helper()
	wantLaid(t, false, d, layout, prec, want)
	wantLaid(t, true, d, layout, prec, "-"+want)
}

func wantRefused(t *testing.T, d api.Dec, layout byte, prec int, want error) {
	t.Helper()
	for _, neg := range []bool{false, true} {
		if s, err := Lay(neg, d, layout, prec); s != "" || err != want {
			t.Errorf("Lay(%v, %s, %q, %d): %.80q, %v, want %v", neg, told(d), layout, prec, s, err, want)
		}
	}
}

func wantAsks(t *testing.T, layout byte, prec, most int, places bool, want error) {
	t.Helper()
	if n, of, err := Asks(layout, prec); n != most || of != places || err != want {
		t.Errorf("Asks(%q, %d): %d, %v, %v, want %d, %v, %v", layout, prec, n, of, err, most, places, want)
	}
}

func wantExponent(t *testing.T, n int, want string) {
	t.Helper()
	if s := Exponent(n, false); s != "e"+want {
		t.Errorf("Exponent(%d, false): %q, want %q", n, s, "e"+want)
	}
	if s := Exponent(n, true); s != "E"+want {
		t.Errorf("Exponent(%d, true): %q, want %q", n, s, "E"+want)
	}
}
