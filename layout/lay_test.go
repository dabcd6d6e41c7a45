package layout

import (
	"strings"
	"testing"
	"unsafe"

	"numeral/api"
)

func TestLA2Table(t *testing.T) {
	for _, c := range []struct {
		digits string
		point  int
		layout byte
		prec   int
		want   string
	}{
		// what the document shows
		{"125", 1, 'e', 4, "1.2500e+00"},
		{"125", 1, 'f', -1, "1.25"},
		{"1", 21, 'g', -1, "1e+20"},
		{"1", 6, 'g', -1, "100000"},
		{"1", 7, 'g', -1, "1e+06"},
		{"1", 7, 'g', 10, "1000000"},
		{"", 0, 'e', 2, "0.00e+00"},
		// e: one digit, and more
		{"7", 1, 'e', -1, "7e+00"},
		{"7", 1, 'e', 0, "7e+00"},
		{"7", 1, 'e', 1, "7.0e+00"},
		{"7", 1, 'e', 3, "7.000e+00"},
		{"70001", 1, 'e', -1, "7.0001e+00"},
		{"70001", 1, 'e', 4, "7.0001e+00"},
		{"70001", 1, 'e', 5, "7.00010e+00"},
		{"70001", 0, 'e', -1, "7.0001e-01"},
		{"70001", 2, 'e', -1, "7.0001e+01"},
		{"70001", -8, 'e', -1, "7.0001e-09"},
		{"70001", -9, 'e', -1, "7.0001e-10"},
		{"70001", 100, 'e', -1, "7.0001e+99"},
		{"70001", 101, 'e', -1, "7.0001e+100"},
		{"5", -323, 'e', -1, "5e-324"},
		{"17976931348623157", 309, 'e', -1, "1.7976931348623157e+308"},
		{"17976931348623157", 309, 'E', -1, "1.7976931348623157E+308"},
		{"5", -323, 'E', 2, "5.00E-324"},
		// f: the point on every side
		{"7", 1, 'f', -1, "7"},
		{"7", 1, 'f', 0, "7"},
		{"7", 1, 'f', 1, "7.0"},
		{"7", 4, 'f', -1, "7000"},
		{"7", 4, 'f', 0, "7000"},
		{"7", 4, 'f', 2, "7000.00"},
		{"7", 0, 'f', -1, "0.7"},
		{"7", 0, 'f', 1, "0.7"},
		{"7", 0, 'f', 2, "0.70"},
		{"7", -3, 'f', -1, "0.0007"},
		{"7", -3, 'f', 4, "0.0007"},
		{"7", -3, 'f', 6, "0.000700"},
		{"123", 1, 'f', -1, "1.23"},
		{"123", 2, 'f', 1, "12.3"},
		{"123", 2, 'f', 2, "12.30"},
		{"123", 3, 'f', -1, "123"},
		{"123", 3, 'f', 0, "123"},
		{"123", 3, 'f', 1, "123.0"},
		{"1003", 2, 'f', -1, "10.03"},
		{"1003", 4, 'f', -1, "1003"},
		{"1003", 5, 'f', -1, "10030"},
		// g: both limits
		{"1", -3, 'g', -1, "0.0001"},
		{"1", -4, 'g', -1, "1e-05"},
		{"123", -3, 'g', -1, "0.000123"},
		{"123", -4, 'g', -1, "1.23e-05"},
		{"123", -4, 'G', -1, "1.23E-05"},
		{"123456", 6, 'g', -1, "123456"},
		{"1234567", 7, 'g', -1, "1.234567e+06"},
		{"12345678", 6, 'g', -1, "123456.78"},
		{"12345678", 7, 'g', -1, "1.2345678e+06"},
		{"12345678", 7, 'G', -1, "1.2345678E+06"},
		{"12345678", 7, 'g', 8, "1234567.8"},
		{"12345678", 8, 'g', 8, "12345678"},
		{"12345678", 9, 'g', 8, "1.2345678e+08"},
		{"12345678", 9, 'g', 9, "123456780"},
		{"12345678", 10, 'g', 9, "1.2345678e+09"},
		{"1", 1, 'g', 0, "1"},
		{"1", 2, 'g', 0, "1e+01"},
		{"1", 1, 'g', 1, "1"},
		{"1", 2, 'g', 1, "1e+01"},
		{"1", 2, 'g', 2, "10"},
		{"1", 3, 'g', 2, "1e+02"},
		{"1", 3, 'G', 2, "1E+02"},
		// g: no noughts behind the digits, be the precision ever so great
		{"1", 1, 'g', 5, "1"},
		{"15", 1, 'g', 1100, "1.5"},
		{"15", -4, 'g', 1100, "1.5e-05"},
		{"15", 400, 'g', 400, "15" + strings.Repeat("0", 398)},
		{"15", 400, 'g', 399, "1.5e+399"},
		// the ends of what the point may be
		{"1", -1200, 'e', -1, "1e-1201"},
		{"1", -1200, 'g', -1, "1e-1201"},
		{"1", -1200, 'f', -1, "0." + strings.Repeat("0", 1200) + "1"},
		{"12", -1200, 'E', 1100, "1.2" + strings.Repeat("0", 1099) + "E-1201"},
		{"1", 400, 'e', -1, "1e+399"},
		{"1", 400, 'G', -1, "1E+399"},
		{"1", 400, 'f', -1, "1" + strings.Repeat("0", 399)},
		{"1", 400, 'f', 1100, "1" + strings.Repeat("0", 399) + "." + strings.Repeat("0", 1100)},
	} {
		wantBoth(t, api.Dec{Digits: c.digits, Point: c.point}, c.layout, c.prec, c.want)
	}
}

func TestLA2Zero(t *testing.T) {
	for _, c := range []struct {
		layout byte
		prec   int
		want   string
	}{
		{'e', -1, "0e+00"},
		{'e', 0, "0e+00"},
		{'e', 1, "0.0e+00"},
		{'e', 2, "0.00e+00"},
		{'e', 1100, "0." + strings.Repeat("0", 1100) + "e+00"},
		{'E', -1, "0E+00"},
		{'E', 0, "0E+00"},
		{'E', 3, "0.000E+00"},
		{'f', -1, "0"},
		{'f', 0, "0"},
		{'f', 1, "0.0"},
		{'f', 1100, "0." + strings.Repeat("0", 1100)},
		{'g', -1, "0"},
		{'g', 0, "0"},
		{'g', 1, "0"},
		{'g', 17, "0"},
		{'g', 1100, "0"},
		{'G', -1, "0"},
		{'G', 0, "0"},
		{'G', 1100, "0"},
	} {
		wantBoth(t, api.Dec{}, c.layout, c.prec, c.want)
	}
}

// wantAsLibrary asks for a number with a precision, in every layout and with each sign.
func wantAsLibrary(t *testing.T, d api.Dec, prec int) {
	t.Helper()
	for _, layout := range []byte(layouts) {
		if refusedDigits(d, layout, prec) {
			wantRefused(t, d, layout, prec, api.ErrDigits)
			continue
		}
		wantBoth(t, d, layout, prec, asLibrary(t, d, layout, prec))
	}
}

// numbers of every kind, with all precisions at their edges.
func TestLA2NumbersOfEveryKind(t *testing.T) {
	for _, d := range numbers() {
		for _, prec := range precisions(d) {
			wantAsLibrary(t, d, prec)
		}
	}
}

func TestLA2Many(t *testing.T) {
	c := chance(2)
	for range 3000 {
		d := c.number()
		wantAsLibrary(t, d, c.precision(d))
	}
}

// all points at which e, f and g differ, with every count of few digits and every small precision.
func TestLA2Small(t *testing.T) {
	c := chance(22)
	for count := range 12 {
		for point := -8; point <= 14; point++ {
			if count == 0 && point != 0 {
				continue
			}
			d := api.Dec{Digits: c.digits(count), Point: point}
			for prec := -1; prec <= 22; prec++ {
				wantAsLibrary(t, d, prec)
			}
		}
	}
}

// wantTold asks g and G for a number on one side of a limit: whether its exponent is told.
func wantTold(t *testing.T, digits string, exponent, prec int, want bool) {
	t.Helper()
	d := api.Dec{Digits: digits, Point: exponent + 1}
	for _, layout := range []byte("gG") {
		s, err := Lay(false, d, layout, prec)
		if got := strings.IndexByte(s, layout-2) >= 0; got != want || err != nil {
			t.Errorf("Lay(false, %s, %q, %d): %.80q, %v; the exponent told: %v", told(d), layout, prec, s, err, want)
		}
		like := byte('f')
		if want {
			like = layout - 2
		}
		wantLaid(t, false, d, layout, prec, layAs(t, d, like))
	}
}

// layAs is a number with as many digits as there are.
func layAs(t *testing.T, d api.Dec, layout byte) string {
	t.Helper()
	s, err := Lay(false, d, layout, -1)
	if err != nil {
		t.Errorf("Lay(false, %s, %q, -1): %v", told(d), layout, err)
	}
	return s
}

// Small numbers: the limit is the same one for every precision.
func TestLA2LimitOfSmallNumbers(t *testing.T) {
	c := chance(23)
	for _, count := range []int{1, 2, 3, 5, 6, 7, 17, 40} {
		for _, prec := range []int{-1, count, count + 1, count + 5, 100, api.MaxPrecision} {
			digits := c.digits(count)
			wantTold(t, digits, -3, prec, false)
			wantTold(t, digits, -4, prec, false)
			wantTold(t, digits, -5, prec, true)
			wantTold(t, digits, -6, prec, true)
			wantTold(t, digits, -100, prec, true)
		}
	}
	wantTold(t, "1", -4, 0, false)
	wantTold(t, "1", -5, 0, true)
}

// Great numbers: the limit is 6 with the precision -1, however many digits there are, and the precision else.
func TestLA2LimitOfGreatNumbers(t *testing.T) {
	c := chance(24)
	for _, count := range []int{1, 2, 5, 6, 7, 8, 17, 40, 800} {
		digits := c.digits(count)
		wantTold(t, digits, 4, -1, false)
		wantTold(t, digits, 5, -1, false)
		wantTold(t, digits, 6, -1, true)
		wantTold(t, digits, 7, -1, true)
		wantTold(t, digits, 399, -1, true)
	}
	for _, count := range []int{1, 2, 5, 6, 7, 17, 40, 390} {
		digits := c.digits(count)
		// The limit is above how many digits there are, or it is just that; the point is within them, behind the last one, and right of them all.
		for limit := count; limit < min(count+12, 399); limit++ {
			for exponent := max(limit-8, 0); exponent < limit; exponent++ {
				wantTold(t, digits, exponent, limit, false)
			}
			wantTold(t, digits, limit, limit, true)
			wantTold(t, digits, limit+1, limit, true)
		}
	}
	wantTold(t, "1", 0, 0, false)
	wantTold(t, "1", 1, 0, true)
	wantTold(t, "1", 398, 399, false)
	wantTold(t, "1", 399, 399, true)
	wantTold(t, "1", 399, 400, false)
	wantTold(t, "1", 399, api.MaxPrecision, false)
}

// wrongNumbers may not be, are Cut, or have their point where none may be.
var wrongNumbers = []api.Dec{
	{Digits: "01", Point: 1},
	{Digits: "10", Point: 1},
	{Digits: "0"},
	{Digits: "1x", Point: 1},
	{Digits: "1.5", Point: 1},
	{Digits: "-1", Point: 1},
	{Digits: "1\x00", Point: 1},
	{Digits: "1/3", Point: 1},
	{Digits: "1:3", Point: 1},
	{Digits: "1é", Point: 1},
	{Point: 1},
	{Point: -1},
	{Point: 500},
	{Digits: strings.Repeat("1", api.MaxDigits+1), Point: 1},
	{Digits: "1", Point: api.MaxPoint + 1},
	{Digits: "1", Point: -api.MaxPoint - 1},
	{Cut: true},
	{Digits: "1", Point: 1, Cut: true},
	{Digits: strings.Repeat("1", api.MaxDigits), Point: 1, Cut: true},
	{Digits: strings.Repeat("1", api.MaxDigits-1) + "0", Point: 1, Cut: true},
	{Digits: "1", Point: -1201},
	{Digits: "1", Point: -1202},
	{Digits: "1", Point: -2000},
	{Digits: "1", Point: -api.MaxPoint},
	{Digits: "1", Point: 401},
	{Digits: "1", Point: 402},
	{Digits: "1", Point: api.MaxPoint},
	{Digits: "12345", Point: -1201},
	{Digits: "12345", Point: 401},
	{Digits: strings.Repeat("3", api.MaxDigits), Point: 401},
	{Digits: strings.Repeat("3", api.MaxDigits), Point: -1201},
}

// A wrong number is told ahead of a wrong layout, of a wrong precision, and of one that is too small.
func TestLA2WrongNumbers(t *testing.T) {
	for _, d := range wrongNumbers {
		for _, layout := range []byte(layouts + "xbFX\x00\xff") {
			for _, prec := range append([]int{-1, 0, 1, 3, 17, api.MaxPrecision}, oddPrecisions...) {
				wantRefused(t, d, layout, prec, api.ErrArg)
			}
		}
	}
}

// Every count of digits may have its point at each bound, and none one beyond.
func TestLA2PointsAtTheBounds(t *testing.T) {
	c := chance(25)
	for _, count := range []int{1, 2, 17, 100, 799, 800} {
		for _, layout := range []byte(layouts) {
			digits := c.digits(count)
			for _, point := range []int{-1200, -1199, 399, 400} {
				d := api.Dec{Digits: digits, Point: point}
				wantBoth(t, d, layout, -1, asLibrary(t, d, layout, -1))
			}
			for _, point := range []int{-1201, -1202, 401, 402} {
				wantRefused(t, api.Dec{Digits: digits, Point: point}, layout, -1, api.ErrArg)
			}
		}
	}
}

// A wrong layout is told ahead of a wrong precision, and this ahead of one that is too small.
func TestLA2WrongLayoutsAndPrecisions(t *testing.T) {
	for _, d := range []api.Dec{{}, {Digits: "1", Point: 1}, {Digits: "12345", Point: 2}, {Digits: "12345", Point: 400}, {Digits: "12345", Point: -1200}, {Digits: strings.Repeat("9", api.MaxDigits), Point: 0}} {
		for layout := range 256 {
			layout := byte(layout)
			if strings.IndexByte(layouts, layout) >= 0 {
				continue
			}
			for _, prec := range append([]int{-1, 0, 1, api.MaxPrecision}, oddPrecisions...) {
				wantRefused(t, d, layout, prec, api.ErrLayout)
			}
		}
		for _, layout := range []byte(layouts) {
			for _, prec := range oddPrecisions {
				wantRefused(t, d, layout, prec, api.ErrPrecision)
			}
		}
	}
}

// The digits of e and of g are counted from the first one on; the places of f behind the point, so that noughts at their begin count, too.
func TestLA2TooManyDigits(t *testing.T) {
	for _, c := range []struct {
		digits      string
		point       int
		layout      byte
		least, most int
	}{
		// least takes them; one fewer, down to most, does not.
		{"1", 1, 'e', 0, 0},
		{"12", 1, 'e', 1, 0},
		{"12", 1, 'E', 1, 0},
		{"12", 300, 'e', 1, 0},
		{"12", -300, 'e', 1, 0},
		{"123456", 6, 'e', 5, 0},
		{"125", 1, 'f', 2, 0},
		{"125", 2, 'f', 1, 0},
		{"125", 3, 'f', 0, 0},
		{"125", 4, 'f', 0, 0},
		{"125", 0, 'f', 3, 0},
		{"125", -4, 'f', 7, 0},
		{"1", -1099, 'f', 1100, 1050},
		{"12", 1, 'g', 2, 0},
		{"12", 1, 'G', 2, 0},
		{"12", 300, 'g', 2, 0},
		{"12", -300, 'G', 2, 0},
		{"1", 1, 'g', 0, 0},
		{"1", 100, 'g', 0, 0},
		{"123456", 3, 'g', 6, 0},
		{strings.Repeat("7", 800), 1, 'e', 799, 700},
		{strings.Repeat("7", 800), 1, 'g', 800, 700},
		{strings.Repeat("7", 800), 1, 'f', 799, 700},
		{strings.Repeat("7", 800), -300, 'f', 1100, 1000},
	} {
		d := api.Dec{Digits: c.digits, Point: c.point}
		wantBoth(t, d, c.layout, c.least, asLibrary(t, d, c.layout, c.least))
		for prec := c.most; prec < c.least; prec++ {
			wantRefused(t, d, c.layout, prec, api.ErrDigits)
		}
	}
	// So many places no precision takes; but as many as there are may be asked for.
	for _, d := range []api.Dec{{Digits: "1", Point: -1100}, {Digits: "12", Point: -1099}, {Digits: "1", Point: -1200}, {Digits: strings.Repeat("7", 800), Point: -301}} {
		for _, prec := range []int{0, 1, 17, api.MaxPrecision} {
			wantRefused(t, d, 'f', prec, api.ErrDigits)
		}
		wantBoth(t, d, 'f', -1, asLibrary(t, d, 'f', -1))
	}
}

// Of g no noughts are written behind the digits, so that it is as e or f with the precision -1, whatever its own is.
func TestLA2GIsAsEOrF(t *testing.T) {
	c := chance(26)
	for range 3000 {
		d := c.number()
		prec := max(-1, min(len(d.Digits)+c.within(0, 30), api.MaxPrecision))
		s, err := Lay(false, d, 'g', prec)
		if e, f := layAs(t, d, 'e'), layAs(t, d, 'f'); err != nil || s != e && s != f {
			t.Errorf("Lay(false, %s, 'g', %d): %.80q, %v, want %.80q or %.80q", told(d), prec, s, err, e, f)
		}
	}
}

// What is answered is new memory.
func TestLA2NewMemory(t *testing.T) {
	for _, digits := range []string{"7", "123", "12345678"} {
		for _, layout := range []byte(layouts) {
			for point := -2; point <= len(digits)+2; point++ {
				s, err := Lay(false, api.Dec{Digits: digits, Point: point}, layout, -1)
				from, at := uintptr(unsafe.Pointer(unsafe.StringData(digits))), uintptr(unsafe.Pointer(unsafe.StringData(s)))
				if err != nil || at >= from && at < from+uintptr(len(digits)) {
					t.Errorf("Lay(false, {%q, %d}, %q, -1): %q, %v, which is of its argument's memory", digits, point, layout, s, err)
				}
			}
		}
	}
}

// A call tells the same thing again, whatever was asked for between.
func TestLA2Again(t *testing.T) {
	c := chance(27)
	type call struct {
		d      api.Dec
		layout byte
		prec   int
		want   string
	}
	var calls []call
	for range 500 {
		d := c.number()
		layout := of(&c, []byte(layouts))
		s, _ := Lay(true, d, layout, 900)
		calls = append(calls, call{d, layout, 900, s})
	}
	for _, a := range calls {
		if s, _ := Lay(true, a.d, a.layout, a.prec); s != a.want {
			t.Errorf("Lay(true, %s, %q, %d): %.80q, and then %.80q", told(a.d), a.layout, a.prec, a.want, s)
		}
	}
}
