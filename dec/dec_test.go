package dec

import (
	"cmp"
	"errors"
	"math"
	"math/big"
	"strconv"
	"strings"
	"testing"
	"unsafe"

	"numeral/api"
)

const (
	maxPoint = api.MaxPoint
	maxWord  = math.MaxUint64
	// By this scale every small number, and what is behind one that is Cut, is a whole number.
	scale = 8
)

var (
	nines = strings.Repeat("9", api.MaxDigits)
	zeros = strings.Repeat("0", api.MaxDigits)
	ones  = strings.Repeat("1", api.MaxDigits)
	// A row of MaxDigits digits whose middle is all noughts.
	wideApart = "1" + zeros[2:] + "1"
)

func dec(digits string, point int) api.Dec { return api.Dec{Digits: digits, Point: point} }
func cut(digits string, point int) api.Dec { return api.Dec{Digits: digits, Point: point, Cut: true} }

// wrongs are numbers that may not be.
func wrongs() []api.Dec {
	return []api.Dec{
		{Point: 1}, {Point: -1}, {Point: maxPoint}, {Cut: true}, {Point: 3, Cut: true},
		dec("0", 0), dec("01", 0), dec("00", 1), cut("0", 0), cut("01", 0), cut("00", 0),
		dec("10", 0), dec("1200", 3), dec("1"+zeros[1:], 0),
		dec(ones+"1", 0), cut(ones+"1", 0), dec("1"+zeros, 0), cut("1"+zeros, 0), dec(strings.Repeat("1", 1<<16), 0),
		dec("1", maxPoint+1), dec("1", -maxPoint-1), cut("1", maxPoint+1), cut("1", -maxPoint-1), dec("1", math.MaxInt), dec("1", math.MinInt),
		dec("1a", 0), dec("a1", 0), dec("1a1", 0), cut("1a", 0), dec("-1", 0), dec("+1", 0), dec(" 1", 0), dec("1 ", 0), dec("1.1", 0), dec("1_1", 0),
		dec("1/", 0), dec("1:", 0), dec("/1", 0), dec(":1", 0), dec("\x001", 0), dec("1\x00", 0), dec("\x01", 0), dec("\x05\x09", 0), dec("\xff", 0), dec("1\xb1", 0), dec("٣", 0),
	}
}

// rights are numbers at the edges, Cut and not.
func rights() []api.Dec {
	return []api.Dec{
		{}, dec("1", 0), dec("9", 1), dec("1", maxPoint), dec("1", -maxPoint), cut("1", maxPoint), cut("1", -maxPoint), cut("10", 0), cut("1000", -7),
		dec(ones, 0), cut(ones, 0), dec(nines, maxPoint), cut(nines, -maxPoint), dec(wideApart, 0), cut("1"+zeros[1:], 5), dec("18446744073709551616", 20),
	}
}

// small are all numbers of at most three of some digits, at points around 0.
func small() []api.Dec {
	list := []api.Dec{{}}
	row := []string{""}
	for range 3 {
		var longer []string
		for _, s := range row {
			for _, c := range "014569" {
				if s != "" || c != '0' {
					longer = append(longer, s+string(c))
				}
			}
		}
		row = longer
		for _, s := range row {
			for _, point := range []int{-1, 0, 1, 3} {
				list = append(list, cut(s, point))
				if s[len(s)-1] != '0' {
					list = append(list, dec(s, point))
				}
			}
		}
	}
	return list
}

func power(n int) int {
	p := 1
	for range n {
		p *= 10
	}
	return p
}

// unit is that of the last digit of a small number, scaled.
func unit(d api.Dec) int { return power(d.Point - len(d.Digits) + scale) }

// scaled is a small number, without what is behind it.
func scaled(d api.Dec) int {
	if d.Digits == "" {
		return 0
	}
	n, _ := strconv.Atoi(d.Digits)
	return n * unit(d)
}

// values are what a small number may be: itself, or, if it is Cut, the least and the greatest that it may be.
func values(d api.Dec) []int {
	if d.Cut {
		return []int{scaled(d) + 1, scaled(d) + unit(d) - 1}
	}
	return []int{scaled(d)}
}

// chance is a row of words that is always the same.
type chance uint64

func (c *chance) below(n int) int {
	*c = *c*6364136223846793005 + 1442695040888963407
	x := uint64(*c)
	return int((x ^ x>>29 ^ x>>47) % uint64(n))
}

// digits are n digits, with rows of noughts and of nines, the first and the last one not 0.
func (c *chance) digits(n int) string {
	text := make([]byte, n)
	for i := range text {
		switch c.below(6) {
		case 0, 1:
			text[i] = '0'
		case 2:
			text[i] = '9'
		default:
			text[i] = '0' + byte(c.below(10))
		}
	}
	for _, i := range []int{0, n - 1} {
		if text[i] == '0' {
			text[i] = '1' + byte(c.below(9))
		}
	}
	return string(text)
}

func TestMake(t *testing.T) {
	for _, c := range []struct {
		digits string
		point  int
		more   bool
		want   api.Dec
	}{
		{"0012500", 3, false, dec("125", 1)}, {"125", 1, false, dec("125", 1)}, {"0012500", 3, true, cut("12500", 1)}, {"125", -4, true, cut("125", -4)},
		{"", 0, false, api.Dec{}}, {"0", 0, false, api.Dec{}}, {"", 7, false, api.Dec{}}, {"000", -7, false, api.Dec{}}, {zeros + zeros, 3, false, api.Dec{}},
		// Of 0 the point says nothing, wherever it is.
		{"", math.MaxInt, false, api.Dec{}}, {"0", math.MinInt, false, api.Dec{}}, {"00", maxPoint + 1, false, api.Dec{}}, {"", -maxPoint - 1, false, api.Dec{}},
		{"1", 0, false, dec("1", 0)}, {"10", 0, false, dec("1", 0)}, {"10", 0, true, cut("10", 0)}, {"01", 0, false, dec("1", -1)}, {"01", 0, true, cut("1", -1)}, {"100", 3, true, cut("100", 3)},
		{"1001", 0, false, dec("1001", 0)}, {"9876543210", 10, false, dec("987654321", 10)},
		// As many digits as may be, and one more.
		{nines, 0, false, dec(nines, 0)}, {nines, 0, true, cut(nines, 0)}, {nines + "1", 0, false, cut(nines, 0)}, {nines + "0", 0, false, dec(nines, 0)}, {nines + "0", 0, true, cut(nines, 0)}, {nines + "1", 0, true, cut(nines, 0)},
		{nines + zeros + "1", 0, false, cut(nines, 0)}, {nines + zeros, 0, false, dec(nines, 0)}, {zeros + nines, 0, false, dec(nines, -api.MaxDigits)}, {zeros + nines + "5", 3, false, cut(nines, 3-api.MaxDigits)},
		{"000" + nines + "000", 3, false, dec(nines, 0)}, {"000" + nines + "000", 3, true, cut(nines, 0)},
		// Noughts that stand where it is cut.
		{"1" + zeros[1:], 0, false, dec("1", 0)}, {"1" + zeros, 0, false, dec("1", 0)}, {"1" + zeros[1:], 0, true, cut("1"+zeros[1:], 0)}, {"1" + zeros, 0, true, cut("1"+zeros[1:], 0)},
		{"1" + zeros + "1", 0, false, cut("1"+zeros[1:], 0)}, {"1" + zeros[1:] + "1", 0, false, cut("1"+zeros[1:], 0)}, {wideApart, 0, false, dec(wideApart, 0)}, {wideApart + "0", 0, false, dec(wideApart, 0)},
		// The point at its bounds, once the noughts are off.
		{"1", maxPoint, false, dec("1", maxPoint)}, {"1", -maxPoint, false, dec("1", -maxPoint)}, {"01", maxPoint + 1, false, dec("1", maxPoint)}, {"001", maxPoint + 2, true, cut("1", maxPoint)},
		{"01", -maxPoint + 1, false, dec("1", -maxPoint)}, {zeros + "1", maxPoint + api.MaxDigits, false, dec("1", maxPoint)}, {zeros + "1", api.MaxDigits - maxPoint, false, dec("1", -maxPoint)},
	} {
		if d, err := Make(c.digits, c.point, c.more); d != c.want || err != nil {
			t.Errorf("Make(%.20q of %d, %d, %v) = %v, %v", c.digits, len(c.digits), c.point, c.more, d, err)
		}
	}
}

func TestMakeRefuses(t *testing.T) {
	for _, c := range []struct {
		digits string
		point  int
		more   bool
		err    error
	}{
		{"12a", 0, false, api.ErrDigits}, {"a12", 0, false, api.ErrDigits}, {"1a2", 0, true, api.ErrDigits}, {"-1", 0, false, api.ErrDigits}, {"+1", 0, false, api.ErrDigits}, {"1.5", 0, false, api.ErrDigits},
		{" ", 0, false, api.ErrDigits}, {"1_0", 0, false, api.ErrDigits}, {"\x01", 0, false, api.ErrDigits}, {"٣", 0, false, api.ErrDigits}, {"1e5", 0, false, api.ErrDigits},
		// A wrong byte where digits are dropped or cut.
		{"00x", 0, false, api.ErrDigits}, {"x00", 0, false, api.ErrDigits}, {nines + "x", 0, false, api.ErrDigits}, {zeros + nines + zeros + "/", 0, true, api.ErrDigits}, {"1" + zeros + ":", 0, false, api.ErrDigits},
		{"", 0, true, api.ErrArg}, {"0", 0, true, api.ErrArg}, {zeros + "0", 0, true, api.ErrArg}, {"", 12, true, api.ErrArg},
		{"1", maxPoint + 1, false, api.ErrRange}, {"1", maxPoint + 1, true, api.ErrRange}, {"1", -maxPoint - 1, false, api.ErrRange}, {"1", math.MaxInt, false, api.ErrRange}, {"1", math.MinInt, false, api.ErrRange},
		{"01", -maxPoint, false, api.ErrRange}, {"01", maxPoint + 2, false, api.ErrRange}, {"10", maxPoint + 1, false, api.ErrRange}, {zeros + "1", api.MaxDigits - maxPoint - 1, false, api.ErrRange},
		// A difference that would wrap round.
		{"01", math.MinInt, false, api.ErrRange}, {zeros + "1", math.MinInt + 1, true, api.ErrRange}, {zeros + "1", math.MaxInt, false, api.ErrRange},
		// In their order: a wrong byte, no digit, the point.
		{"x", math.MaxInt, true, api.ErrDigits}, {"0x", 0, true, api.ErrDigits}, {"1x", maxPoint + 1, false, api.ErrDigits}, {"", math.MaxInt, true, api.ErrArg}, {"00", math.MinInt, true, api.ErrArg}, {"0", maxPoint + 2, true, api.ErrArg},
	} {
		if d, err := Make(c.digits, c.point, c.more); d != (api.Dec{}) || err != c.err {
			t.Errorf("Make(%.20q of %d, %d, %v) = %v, %v", c.digits, len(c.digits), c.point, c.more, d, err)
		}
	}
	for c := range 256 {
		_, err := Make("1"+string([]byte{byte(c)})+"1", 0, false)
		if digit := '0' <= c && c <= '9'; digit != (err == nil) || !digit && err != api.ErrDigits {
			t.Errorf("Make with the byte %d: %v", c, err)
		}
	}
}

// What Make answers may be, and is 0.digits times ten to the point.
func TestMakeAgainstSmallNumbers(t *testing.T) {
	for n := range 3000 {
		for _, lead := range []string{"", "0", "00"} {
			for _, tail := range []string{"", "0", "000"} {
				for _, more := range []bool{false, true} {
					digits := lead + strconv.Itoa(n) + tail
					d, err := Make(digits, 2, more)
					if n == 0 && more {
						if d != (api.Dec{}) || err != api.ErrArg {
							t.Fatalf("Make(%q, 2, true) = %v, %v", digits, d, err)
						}
						continue
					}
					want := n * power(len(tail)) * power(2-len(digits)+scale)
					if err != nil || Valid(d) != nil || d.Cut != more || scaled(d) != want {
						t.Fatalf("Make(%q, 2, %v) = %v, %v", digits, more, d, err)
					}
					if more && unit(d) != power(2-len(digits)+scale) {
						t.Fatalf("Make(%q, 2, true) = %v: what is behind is more, or less", digits, d)
					}
				}
			}
		}
	}
}

func TestValid(t *testing.T) {
	for _, d := range append(rights(), small()...) {
		if err := Valid(d); err != nil {
			t.Errorf("Valid(%v): %v", d, err)
		}
	}
	for _, d := range wrongs() {
		if err := Valid(d); err != api.ErrArg {
			t.Errorf("Valid(%.40q, %d, %v): %v", d.Digits, d.Point, d.Cut, err)
		}
	}
	for c := range 256 {
		err := Valid(dec("1"+string([]byte{byte(c)})+"1", 0))
		if digit := '0' <= c && c <= '9'; digit != (err == nil) {
			t.Errorf("Valid with the byte %d: %v", c, err)
		}
	}
}

func TestWhole(t *testing.T) {
	for _, c := range []struct {
		n    uint64
		want api.Dec
	}{
		{0, api.Dec{}}, {1, dec("1", 1)}, {9, dec("9", 1)}, {10, dec("1", 2)}, {105, dec("105", 3)}, {12500, dec("125", 5)},
		{1e19, dec("1", 20)}, {1e19 - 1, dec(nines[:19], 19)}, {maxWord, dec("18446744073709551615", 20)}, {maxWord - 5, dec("1844674407370955161", 20)}, {1 << 63, dec("9223372036854775808", 19)},
	} {
		if d := Whole(c.n); d != c.want {
			t.Errorf("Whole(%d) = %v", c.n, d)
		}
	}
	for n := range 20000 {
		d := Whole(uint64(n))
		if made, err := Make(strconv.Itoa(n), len(strconv.Itoa(n)), false); d != made || err != nil || Valid(d) != nil {
			t.Fatalf("Whole(%d) = %v, made %v, %v", n, d, made, err)
		}
		if back, exact, err := Uint(d); back != uint64(n) || !exact || err != nil {
			t.Fatalf("Uint(Whole(%d)) = %d, %v, %v", n, back, exact, err)
		}
	}
}

func TestCompare(t *testing.T) {
	for _, c := range []struct {
		a, b api.Dec
		want int
	}{
		{cut("12", 0), dec("125", 0), 2}, {cut("12", 0), dec("13", 0), -1}, {cut("12", 0), dec("12", 0), 1}, {cut("12", 0), dec("119", 0), 1}, {cut("12", 0), dec("121", 0), 2},
		{api.Dec{}, api.Dec{}, 0}, {api.Dec{}, dec("1", -maxPoint), -1}, {api.Dec{}, cut("1", -maxPoint), -1}, {dec("1", 0), dec("1", 0), 0}, {dec("1", 0), dec("1", 1), -1},
		{dec("12", 0), dec("2", 0), -1}, {dec("12", 0), dec("1", 0), 1}, {dec("9", -maxPoint), dec("1", maxPoint), -1}, {dec(nines, 3), dec("1", 4), -1}, {dec("1", -3), dec(nines, -4), 1},
		// All that is behind nines stays below the digit that would come.
		{cut("99", 0), dec("1", 1), -1}, {cut(nines, maxPoint-1), dec("1", maxPoint), -1}, {cut("9", 0), cut("1", 1), -1}, {cut("19", 0), dec("2", 0), -1}, {cut("19", 0), cut("2", 0), -1},
		{cut("12", 0), cut("12", 0), 2}, {cut("12", 0), cut("13", 0), -1}, {cut("12", 0), cut("125", 0), 2}, {cut("12", 0), cut("120", 0), 2}, {cut("1", 0), cut("1000", 0), 2}, {cut("1", 0), cut("1999", 0), 2}, {cut("1", 0), cut("2000", 0), -1},
		{cut("120", 0), dec("12", 0), 1}, {cut("1200", 0), dec("12", 0), 1}, {cut("1200", 0), dec("1200001", 0), 2}, {cut("1200", 0), dec("12001", 0), 2}, {cut("1200", 0), dec("1201", 0), -1}, {cut("1200", 0), dec("121", 0), -1}, {cut("125", 0), dec("12", 0), 1},
		{dec(nines, 0), dec(nines, 0), 0}, {dec(nines, 0), cut(nines, 0), -1}, {cut(nines, 0), cut(nines, 0), 2}, {dec(ones, 0), dec(ones[1:], 0), 1}, {cut(ones, 0), cut(ones[1:], 0), 2}, {dec(wideApart, 0), dec("1", 0), 1},
	} {
		back := -c.want
		if c.want == 2 {
			back = 2
		}
		if n, err := Compare(c.a, c.b); n != c.want || err != nil {
			t.Errorf("Compare(%v, %v) = %d, %v", c.a, c.b, n, err)
		}
		if n, err := Compare(c.b, c.a); n != back || err != nil {
			t.Errorf("Compare(%v, %v) = %d, %v", c.b, c.a, n, err)
		}
	}
}

// Whatever is behind: each pair of what two numbers may be says the same, or it can't be told.
func TestCompareAgainstAllValues(t *testing.T) {
	list := small()
	for _, a := range list {
		for _, b := range list {
			seen := map[int]bool{}
			for _, x := range values(a) {
				for _, y := range values(b) {
					seen[cmp.Compare(x, y)] = true
				}
			}
			want := unsure
			for n := range seen {
				if len(seen) == 1 {
					want = n
				}
			}
			if n, err := Compare(a, b); n != want || err != nil {
				t.Fatalf("Compare(%v, %v) = %d, %v: not %d", a, b, n, err, want)
			}
		}
	}
}

// calls are all calls that take a number and answer an error, what they answer beside it put into one.
func calls() map[string]func(d api.Dec) (any, error) {
	of := func(d api.Dec, err error) (any, error) { return d, err }
	return map[string]func(d api.Dec) (any, error){
		"Compare, a": func(d api.Dec) (any, error) {
			n, err := Compare(d, dec("1", 0))
			return api.Dec{Point: n}, err
		},
		"Compare, b": func(d api.Dec) (any, error) {
			n, err := Compare(api.Dec{}, d)
			return api.Dec{Point: n}, err
		},
		"Round":       func(d api.Dec) (any, error) { return of(Round(d, 0)) },
		"Down":        func(d api.Dec) (any, error) { return of(Down(d, 0)) },
		"Up":          func(d api.Dec) (any, error) { return of(Up(d, 0)) },
		"Round, far":  func(d api.Dec) (any, error) { return of(Round(d, api.MaxDigits)) },
		"Down, far":   func(d api.Dec) (any, error) { return of(Down(d, api.MaxDigits)) },
		"Up, far":     func(d api.Dec) (any, error) { return of(Up(d, api.MaxDigits)) },
		"Round, less": func(d api.Dec) (any, error) { return of(Round(d, -1)) },
		"Halve":       func(d api.Dec) (any, error) { return of(Halve(d)) },
		"Double":      func(d api.Dec) (any, error) { return of(Double(d)) },
		"Uint": func(d api.Dec) (any, error) {
			n, exact, err := Uint(d)
			return api.Dec{Point: int(n), Cut: exact}, err
		},
	}
}

// Numbers that may not be are ErrArg everywhere, even where the point is out of range too.
func TestWrongNumbersAreRefused(t *testing.T) {
	for name, call := range calls() {
		for _, d := range wrongs() {
			if answer, err := call(d); answer != (api.Dec{}) || err != api.ErrArg {
				t.Errorf("%s of %.40q, %d, %v: %v, %v", name, d.Digits, d.Point, d.Cut, answer, err)
			}
		}
	}
	for _, d := range wrongs() {
		if s := Text(d); s != "" {
			t.Errorf("Text of %.40q, %d, %v: %q", d.Digits, d.Point, d.Cut, s)
		}
	}
}

func TestErrorsAreTheNumbersThemselves(t *testing.T) {
	_, digits := Make("x", 0, false)
	_, rang := Make("1", math.MaxInt, false)
	_, syntax := Read("x")
	for _, c := range []struct {
		err  error
		want api.Errno
	}{{Valid(dec("0", 0)), 1}, {digits, 30}, {rang, 4}, {syntax, 3}} {
		if n, ok := c.err.(api.Errno); !ok || n != c.want || !errors.Is(c.err, c.want) {
			t.Errorf("%#v is not the number %d", c.err, c.want)
		}
	}
}

func TestHalveAndDouble(t *testing.T) {
	for _, c := range []struct{ d, half, twice api.Dec }{
		{api.Dec{}, api.Dec{}, api.Dec{}}, {dec("1", 0), dec("5", -1), dec("2", 0)}, {dec("125", 1), dec("625", 0), dec("25", 1)}, {dec("5", 0), dec("25", 0), dec("1", 1)},
		{dec("2", 0), dec("1", 0), dec("4", 0)}, {dec("9", 0), dec("45", 0), dec("18", 1)}, {dec("19", 0), dec("95", -1), dec("38", 0)}, {dec("50005", 2), dec("250025", 2), dec("10001", 3)}, {dec("99", -3), dec("495", -3), dec("198", -2)},
		// As many digits as may be: one more is cut, if it is not 0.
		{dec(nines, 0), cut("4"+nines[1:], 0), cut("1"+nines[1:], 1)}, {dec(nines[1:], 0), dec("4"+nines[2:]+"5", 0), dec("1"+nines[2:]+"8", 1)},
		{dec("5"+zeros[2:]+"1", 0), cut("25"+zeros[2:], 0), cut("1"+zeros[1:], 1)}, {dec("5"+zeros[2:]+"5", 0), cut("25"+zeros[3:]+"2", 0), dec("1"+zeros[2:]+"1", 1)},
		{dec("2"+zeros[2:]+"2", 0), dec("1"+zeros[2:]+"1", 0), dec("4"+zeros[2:]+"4", 0)}, {dec(wideApart, 0), dec("5"+zeros[2:]+"5", -1), dec("2"+zeros[2:]+"2", 0)},
		// The point at its bounds.
		{dec("2", -maxPoint), dec("1", -maxPoint), dec("4", -maxPoint)}, {dec("4", maxPoint), dec("2", maxPoint), dec("8", maxPoint)},
	} {
		if d, err := Halve(c.d); d != c.half || err != nil {
			t.Errorf("Halve(%v) = %v, %v", c.d, d, err)
		}
		if d, err := Double(c.d); d != c.twice || err != nil {
			t.Errorf("Double(%v) = %v, %v", c.d, d, err)
		}
	}
}

func TestHalveAndDoubleRefuse(t *testing.T) {
	for _, d := range append(rights(), small()...) {
		if !d.Cut {
			continue
		}
		if half, err := Halve(d); half != (api.Dec{}) || err != api.ErrArg {
			t.Errorf("Halve(%v) = %v, %v", d, half, err)
		}
		if twice, err := Double(d); twice != (api.Dec{}) || err != api.ErrArg {
			t.Errorf("Double(%v) = %v, %v", d, twice, err)
		}
	}
	for _, digits := range []string{"1", "19", "1" + nines[1:]} {
		if d, err := Halve(dec(digits, -maxPoint)); d != (api.Dec{}) || err != api.ErrRange {
			t.Errorf("Halve below the least point: %v, %v", d, err)
		}
		if d, err := Halve(dec(digits, 1-maxPoint)); d.Point != -maxPoint || err != nil {
			t.Errorf("Halve to the least point: %v, %v", d, err)
		}
	}
	for _, digits := range []string{"5", "98", nines} {
		if d, err := Double(dec(digits, maxPoint)); d != (api.Dec{}) || err != api.ErrRange {
			t.Errorf("Double above the greatest point: %v, %v", d, err)
		}
		if d, err := Double(dec(digits, maxPoint-1)); d.Point != maxPoint || err != nil {
			t.Errorf("Double to the greatest point: %v, %v", d, err)
		}
	}
}

func TestHalveAndDoubleAgainstGreatNumbers(t *testing.T) {
	c := chance(1)
	made := func(x *big.Int, places, point int) api.Dec {
		text := x.Text(10)
		d, err := Make(strings.Repeat("0", places-len(text))+text, point, false)
		if err != nil {
			t.Fatal(err)
		}
		return d
	}
	for i := range 2000 {
		n := 1 + c.below(api.MaxDigits)
		if i%4 == 0 {
			n = api.MaxDigits - c.below(2)
		}
		d := dec(c.digits(n), c.below(2000)-1000)
		x, _ := new(big.Int).SetString(d.Digits, 10)
		half, err := Halve(d)
		if want := made(new(big.Int).Mul(x, big.NewInt(5)), n+1, d.Point); half != want || err != nil {
			t.Fatalf("Halve(%v) = %v, %v", d, half, err)
		}
		twice, err := Double(d)
		if want := made(new(big.Int).Add(x, x), n+1, d.Point+1); twice != want || err != nil {
			t.Fatalf("Double(%v) = %v, %v", d, twice, err)
		}
		if twice.Cut {
			continue
		}
		if back, err := Halve(twice); back != d || err != nil {
			t.Fatalf("half of twice %v: %v, %v", d, back, err)
		}
	}
	for _, d := range small() {
		if d.Cut {
			continue
		}
		half, err := Halve(d)
		if err != nil || Valid(half) != nil || half.Cut || scaled(half)*2 != scaled(d) {
			t.Fatalf("Halve(%v) = %v, %v", d, half, err)
		}
		twice, err := Double(d)
		if err != nil || Valid(twice) != nil || twice.Cut || scaled(twice) != scaled(d)*2 {
			t.Fatalf("Double(%v) = %v, %v", d, twice, err)
		}
		if back, err := Halve(twice); back != d || err != nil {
			t.Fatalf("half of twice %v: %v, %v", d, back, err)
		}
	}
}

func TestUint(t *testing.T) {
	for _, c := range []struct {
		d     api.Dec
		n     uint64
		exact bool
	}{
		{api.Dec{}, 0, true}, {dec("1", 1), 1, true}, {dec("1", 0), 0, false}, {dec("9", -3), 0, false}, {dec("9", -maxPoint), 0, false}, {dec("125", 1), 1, false}, {dec("125", 2), 12, false}, {dec("125", 3), 125, true}, {dec("125", 5), 12500, true},
		{dec("1", 20), 1e19, true}, {dec("18446744073709551615", 20), maxWord, true}, {dec("184467440737095516159", 20), maxWord, false}, {dec("1844674407370955161", 20), maxWord - 5, true}, {dec("18446744073709551615"+nines[:780], 20), maxWord, false},
		{cut("18446744073709551615", 20), maxWord, false}, {cut("12", 2), 12, false}, {cut("120", 2), 12, false}, {cut("120", 3), 120, false}, {cut("1000", 1), 1, false}, {cut("12", 1), 1, false}, {cut("12", 0), 0, false}, {cut("12", -maxPoint), 0, false},
		{dec(nines, 19), 1e19 - 1, false}, {cut(nines, 1), 9, false},
	} {
		if n, exact, err := Uint(c.d); n != c.n || exact != c.exact || err != nil {
			t.Errorf("Uint(%v) = %d, %v, %v", c.d, n, exact, err)
		}
	}
	for _, c := range []struct {
		d   api.Dec
		err error
	}{
		{dec("18446744073709551616", 20), api.ErrRange}, {cut("18446744073709551616", 20), api.ErrRange}, {dec("1844674407370955162", 20), api.ErrRange}, {dec("184467440737095516160001", 20), api.ErrRange}, {dec("2", 20), api.ErrRange}, {dec("9", 20), api.ErrRange},
		{dec("1", 21), api.ErrRange}, {dec("18446744073709551615", 21), api.ErrRange}, {dec("1", maxPoint), api.ErrRange}, {dec(nines, api.MaxDigits), api.ErrRange}, {cut(nines, api.MaxDigits), api.ErrRange}, {cut(nines, 21), api.ErrRange},
		// Where digits ahead of the point are not known, that is told first, be the number ever so great.
		{cut("12", 3), api.ErrArg}, {cut("1", 2), api.ErrArg}, {cut("1844674407370955161", 20), api.ErrArg}, {cut("9", 20), api.ErrArg}, {cut("9", 21), api.ErrArg}, {cut("1", maxPoint), api.ErrArg}, {cut(nines, api.MaxDigits+1), api.ErrArg},
	} {
		if n, exact, err := Uint(c.d); n != 0 || exact || err != c.err {
			t.Errorf("Uint(%v) = %d, %v, %v", c.d, n, exact, err)
		}
	}
}

func TestUintAgainstAllValues(t *testing.T) {
	for _, d := range small() {
		n, exact, err := Uint(d)
		if d.Cut && d.Point > len(d.Digits) {
			if n != 0 || exact || err != api.ErrArg {
				t.Fatalf("Uint(%v) = %d, %v, %v", d, n, exact, err)
			}
			continue
		}
		for _, x := range values(d) {
			if int(n) != x/power(scale) || exact != (x%power(scale) == 0) || err != nil {
				t.Fatalf("Uint(%v) = %d, %v, %v", d, n, exact, err)
			}
		}
	}
}

// shares says whether two texts lie in the same memory.
func shares(a, b string) bool {
	if len(a) < 2 || len(b) < 2 {
		return false
	}
	x, y := uintptr(unsafe.Pointer(unsafe.StringData(a))), uintptr(unsafe.Pointer(unsafe.StringData(b)))
	return x < y+uintptr(len(b)) && y < x+uintptr(len(a))
}

// A long text is not kept for the sake of a few of its digits, and the answer is always the same one.
func TestNewMemory(t *testing.T) {
	digits := strings.Clone("0012345" + nines + "00")
	given := dec(strings.Clone("1234567"), 3)
	text := strings.Clone("0.1234567e3")
	for name, call := range map[string]func() (api.Dec, error){
		"Make":          func() (api.Dec, error) { return Make(digits, 3, false) },
		"Make, short":   func() (api.Dec, error) { return Make(given.Digits, 3, false) },
		"Round":         func() (api.Dec, error) { return Round(given, 3) },
		"Round, itself": func() (api.Dec, error) { return Round(given, 9) },
		"Down":          func() (api.Dec, error) { return Down(given, 3) },
		"Up":            func() (api.Dec, error) { return Up(given, 3) },
		"Up, itself":    func() (api.Dec, error) { return Up(given, 9) },
		"Halve":         func() (api.Dec, error) { return Halve(given) },
		"Double":        func() (api.Dec, error) { return Double(given) },
		"Read":          func() (api.Dec, error) { return Read(text) },
		"Whole":         func() (api.Dec, error) { return Whole(1234567), nil },
	} {
		d, err := call()
		again, _ := call()
		if err != nil || d != again {
			t.Errorf("%s: %v, then %v, %v", name, d, again, err)
		}
		for _, s := range []string{digits, given.Digits, text, again.Digits} {
			if shares(d.Digits, s) {
				t.Errorf("%s answers memory that is not new", name)
			}
		}
	}
}
