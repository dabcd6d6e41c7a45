package layout

import (
	"strings"
	"testing"

	"numeral/api"
	"numeral/scan"
)

// holds checks what is laid of a number, which is not refused, by what the theorem says of it.
func holds(t *testing.T, neg bool, d api.Dec, layout byte, prec int) {
	t.Helper()
	s, err := Lay(neg, d, layout, prec)
	if err != nil {
		t.Errorf("Lay(%v, %s, %q, %d): %v", neg, told(d), layout, prec, err)
		return
	}
	wantNumber(t, s, neg, d)
	if prec < 0 {
		return
	}
	mantissa, _, _ := strings.Cut(strings.ToLower(strings.TrimPrefix(s, "-")), "e")
	whole, part, pointed := strings.Cut(mantissa, ".")
	switch layout {
	case 'e', 'E':
		if len(whole) != 1 || len(part) != prec {
			t.Errorf("Lay(%v, %s, %q, %d): %.80q, of %d and %d digits", neg, told(d), layout, prec, s, len(whole), len(part))
		}
	case 'f':
		if len(part) != prec {
			t.Errorf("Lay(%v, %s, 'f', %d): %.80q, of %d places", neg, told(d), prec, s, len(part))
		}
	}
	if pointed != (part != "") {
		t.Errorf("Lay(%v, %s, %q, %d): %.80q, with nothing behind its point", neg, told(d), layout, prec, s)
	}
}

// wantNumber reads what was laid: it is a decimal with that sign, and just the number.
func wantNumber(t *testing.T, s string, neg bool, d api.Dec) {
	t.Helper()
	parts, err := scan.Scan(s)
	if err != nil || parts != (api.Parts{Neg: neg, Kind: api.TextDec, Dec: d}) {
		t.Errorf("Scan(%.80q): %v, %v, %s, %v, want %v, %s", s, parts.Neg, parts.Kind, told(parts.Dec), err, neg, told(d))
	}
}

// greatAndSmall checks that a great layout differs from its small one by the letter alone.
func greatAndSmall(t *testing.T, neg bool, d api.Dec, small byte, prec int) {
	t.Helper()
	low, err := Lay(neg, d, small, prec)
	high, again := Lay(neg, d, small-'a'+'A', prec)
	if err != again || high != strings.Replace(low, "e", "E", 1) || strings.ContainsAny(low, "E") {
		t.Errorf("Lay(%v, %s, %q, %d): %.80q, %v, but of the great letter %.80q, %v", neg, told(d), small, prec, low, err, high, again)
	}
}

// theorem asks for a number with a precision in all layouts, with each sign.
func theorem(t *testing.T, d api.Dec, prec int) {
	t.Helper()
	for _, neg := range []bool{false, true} {
		for _, layout := range []byte(layouts) {
			if !refusedDigits(d, layout, prec) {
				holds(t, neg, d, layout, prec)
			}
		}
		greatAndSmall(t, neg, d, 'e', prec)
		greatAndSmall(t, neg, d, 'g', prec)
	}
}

func TestLA4NumbersOfEveryKind(t *testing.T) {
	for _, d := range numbers() {
		for _, prec := range precisions(d) {
			theorem(t, d, prec)
		}
	}
}

func TestLA4Many(t *testing.T) {
	c := chance(4)
	for range 20000 {
		d := c.number()
		theorem(t, d, c.precision(d))
	}
}

// every precision, of a few numbers.
func TestLA4EveryPrecision(t *testing.T) {
	for _, d := range []api.Dec{{}, {Digits: "1", Point: 1}, {Digits: "125", Point: 1}, {Digits: "125", Point: 3}, {Digits: "125", Point: 20}, {Digits: "125", Point: -20}, {Digits: "9007199254740993", Point: 16}, {Digits: strings.Repeat("407", 100), Point: 150}} {
		for prec := -1; prec <= api.MaxPrecision; prec++ {
			theorem(t, d, prec)
		}
	}
}

// all numbers of at most 4 digits, with the point in and about them.
func TestLA4AllOfFewDigits(t *testing.T) {
	for n := range 10000 {
		d := scan.Dec(string(digitsOf(n)), "", 0)
		for point := -2; point <= 7; point++ {
			if d.Digits != "" {
				d.Point = point
			}
			for _, prec := range []int{-1, n % 5} {
				for _, layout := range []byte("efg") {
					if !refusedDigits(d, layout, prec) {
						holds(t, n%2 == 0, d, layout, prec)
					}
				}
			}
		}
	}
}

// digitsOf are a number's, the last one first: each number's are some other one's.
func digitsOf(n int) []byte {
	digits := []byte{}
	for ; n > 0; n /= 10 {
		digits = append(digits, byte('0'+n%10))
	}
	return digits
}
