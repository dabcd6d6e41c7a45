package shortest

import (
	"math"
	"math/big"
	"slices"
	"strings"
	"testing"
	"unsafe"

	"numeral/api"
)

func number(digits string, point int) api.Dec { return api.Dec{Digits: digits, Point: point} }

// full are as many digits as may be, with these behind a row of one digit.
func full(digit, behind string) string {
	return strings.Repeat(digit, api.MaxDigits-len(behind)) + behind
}

func TestSH3Simplest(t *testing.T) {
	for _, c := range []struct {
		low, high         api.Dec
		between, withEnds api.Dec
	}{
		{number("12", 1), number("19", 1), number("13", 1), number("12", 1)},
		{number("12", 1), number("31", 1), number("2", 1), number("2", 1)},
		{number("12", 1), number("125", 1), number("121", 1), number("12", 1)},
		{number("12", 1), number("2", 1), number("13", 1), number("2", 1)},
		{number("1", 1), number("2", 1), number("11", 1), number("1", 1)},
		{number("1", 1), number("11", 1), number("101", 1), number("1", 1)},
		{number("1", 1), number("3", 1), number("2", 1), number("1", 1)},
		{number("125", 1), number("13", 1), number("126", 1), number("13", 1)},
		{number("123", 1), number("124", 1), number("1231", 1), number("123", 1)},
		{number("1234", 1), number("124", 1), number("1235", 1), number("124", 1)},
		{number("129", 1), number("131", 1), number("13", 1), number("13", 1)},
		// Nines become noughts.
		{number("199", 1), number("201", 1), number("2", 1), number("2", 1)},
		{number("199", 1), number("2", 1), number("1991", 1), number("2", 1)},
		{number("1999", 1), number("2001", 1), number("2", 1), number("2", 1)},
		{number("99", 1), number("101", 2), number("1", 2), number("1", 2)},
		// Ends that differ far behind.
		{number("123456789123456789", 3), number("1234567891234567893", 3), number("1234567891234567891", 3), number("123456789123456789", 3)},
		{number("1234567891234567891", 3), number("123456789123456793", 3), number("12345678912345679", 3), number("12345678912345679", 3)},
		{number("1", -5), number("1000000000000000000000000000001", -5), number("10000000000000000000000000000001", -5), number("1", -5)},
		{number("1000000000000000000000000000001", -5), number("100000000000000000000000000001", -5), number("1000000000000000000000000000002", -5), number("100000000000000000000000000001", -5)},
		// Different points: a power of ten lies between, but may not be the least.
		{number("5", 0), number("2", 1), number("6", 0), number("5", 0)},
		{number("95", 0), number("12", 1), number("1", 1), number("1", 1)},
		{number("9", 0), number("2", 1), number("1", 1), number("9", 0)},
		{number("9", 0), number("1", 1), number("91", 0), number("9", 0)},
		{number("95", 0), number("1", 1), number("96", 0), number("1", 1)},
		{number("99999", 0), number("1", 1), number("999991", 0), number("1", 1)},
		{number("99999", 0), number("11", 1), number("1", 1), number("1", 1)},
		{number("91", 0), number("99", 0), number("92", 0), number("91", 0)},
		{number("1", 0), number("1", 9), number("2", 0), number("1", 0)},
		{number("123", -3), number("456", 5), number("2", -3), number("2", -3)},
		{number("987", -3), number("123", -2), number("1", -2), number("1", -2)},
		// At the least and the greatest point.
		{number("1", -api.MaxPoint), number("2", -api.MaxPoint), number("11", -api.MaxPoint), number("1", -api.MaxPoint)},
		{number("1", -api.MaxPoint), number("1", api.MaxPoint), number("2", -api.MaxPoint), number("1", -api.MaxPoint)},
		{number("9", api.MaxPoint), number("99", api.MaxPoint), number("91", api.MaxPoint), number("9", api.MaxPoint)},
		{number("99", api.MaxPoint), number("995", api.MaxPoint), number("991", api.MaxPoint), number("99", api.MaxPoint)},
		{number("9", api.MaxPoint), number(full("9", ""), api.MaxPoint), number("91", api.MaxPoint), number("9", api.MaxPoint)},
		{number("9", api.MaxPoint-1), number("2", api.MaxPoint), number("1", api.MaxPoint), number("9", api.MaxPoint-1)},
		// Ends of as many digits as may be.
		{number(full("7", "1"), 5), number(full("7", "3"), 5), number(full("7", "2"), 5), number(full("7", "1"), 5)},
		{number(full("7", "1"), 5), number(full("7", "8"), 5), number(full("7", "2"), 5), number(full("7", "1"), 5)},
		{number(full("7", "1"), 5), number(full("7", "91"), 5), number(full("7", "8")[1:], 5), number(full("7", "8")[1:], 5)},
		{number(full("7", "01"), 5), number(full("7", "1"), 5), number(full("7", "1")[1:], 5), number(full("7", "1")[1:], 5)},
		{number("2", 0), number("2"+full("0", "3")[1:], 0), number("2"+full("0", "1")[1:], 0), number("2", 0)},
		{number(full("9", "7"), 0), number("1", 1), number(full("9", "8"), 0), number("1", 1)},
		{number(full("9", ""), 0), number("1"+full("0", "1")[1:], 1), number("1", 1), number("1", 1)},
		{number(full("1", ""), 0), number("2", 0), number("12", 0), number("2", 0)},
		{number(full("1", ""), 0), number(full("2", ""), 0), number("2", 0), number("2", 0)},
	} {
		wantSimplest(t, c.low, c.high, false, c.between, nil)
		wantSimplest(t, c.low, c.high, true, c.withEnds, nil)
	}
}

// Nothing with as many digits as may be lies between these; with the ends themselves, the one with fewer digits, or the lower one, does.
func TestSH3NothingBetween(t *testing.T) {
	for _, c := range []struct{ low, high, withEnds api.Dec }{
		{number(full("7", "1"), 5), number(full("7", "2"), 5), number(full("7", "1"), 5)},
		{number(full("7", "8"), 5), number(full("7", "9"), 5), number(full("7", "8"), 5)},
		{number(full("7", "79"), 5), number(full("7", "8")[1:], 5), number(full("7", "8")[1:], 5)},
		{number("2", 0), number("2"+full("0", "1")[1:], 0), number("2", 0)},
		{number("1", 0), number("1"+full("0", "1")[1:], 0), number("1", 0)},
		{number("123", 0), number("123"+full("0", "1")[3:], 0), number("123", 0)},
		{number(full("9", ""), 0), number("1", 1), number("1", 1)},
		{number("1"+full("9", "")[1:], 0), number("2", 0), number("2", 0)},
		{number(full("9", "8"), api.MaxPoint), number(full("9", ""), api.MaxPoint), number(full("9", "8"), api.MaxPoint)},
		{number("1", -api.MaxPoint), number("1"+full("0", "1")[1:], -api.MaxPoint), number("1", -api.MaxPoint)},
		{number(full("9", ""), -api.MaxPoint), number("1", 1-api.MaxPoint), number("1", 1-api.MaxPoint)},
	} {
		wantSimplest(t, c.low, c.high, false, api.Dec{}, api.ErrRange)
		wantSimplest(t, c.low, c.high, true, c.withEnds, nil)
	}
}

func TestSH3FromNought(t *testing.T) {
	for _, high := range []api.Dec{number("1", 1), number("1", 0), number("1", -api.MaxPoint), number(full("9", ""), api.MaxPoint), number(full("3", ""), -api.MaxPoint)} {
		wantSimplest(t, api.Dec{}, high, true, api.Dec{}, nil)
		wantSimplest(t, api.Dec{}, high, false, api.Dec{}, api.ErrArg)
	}
}

// one and two are numbers beside which nothing is wrong.
var one, two = number("1", 1), number("2", 1)

func TestSH3NotBelow(t *testing.T) {
	list := []api.Dec{{}, number("1", -api.MaxPoint), number("1", -3), one, number(full("1", ""), 1), number("12", 1), two, number(full("9", ""), 1), number("1", 2), number("1", api.MaxPoint), number(full("9", ""), api.MaxPoint)}
	for i, low := range list {
		for _, high := range list[:i+1] {
			for _, closed := range []bool{false, true} {
				wantSimplest(t, low, high, closed, api.Dec{}, api.ErrArg)
			}
		}
	}
}

// What may not be, and what is Cut, is refused at both ends, and ahead of all that would be answered.
func TestSH3Errors(t *testing.T) {
	nothing := []api.Dec{number(full("7", "1"), 5), number(full("7", "2"), 5)}
	for _, d := range append(neverDecimals(), cutDecimals()...) {
		for _, closed := range []bool{false, true} {
			for _, other := range append(nothing, api.Dec{}, one, two, number("1", api.MaxPoint), d) {
				wantSimplest(t, d, other, closed, api.Dec{}, api.ErrArg)
				wantSimplest(t, other, d, closed, api.Dec{}, api.ErrArg)
			}
		}
	}
	// Ends that are Cut would be in order by what is known of them.
	for _, cut := range []api.Dec{{Digits: "15", Point: 1, Cut: true}, {Digits: full("1", ""), Point: 1, Cut: true}} {
		for _, closed := range []bool{false, true} {
			wantSimplest(t, one, cut, closed, api.Dec{}, api.ErrArg)
			wantSimplest(t, cut, two, closed, api.Dec{}, api.ErrArg)
		}
	}
}

// neverDecimals are such as may not be.
func neverDecimals() []api.Dec {
	full := strings.Repeat("7", api.MaxDigits)
	return []api.Dec{
		{Digits: "1x"}, {Digits: "x"}, {Digits: "-1"}, {Digits: "1.5"}, {Digits: "1/"}, {Digits: "1:"}, {Digits: "1\x00"}, {Digits: "1\xb5"}, {Digits: " 1"}, {Digits: full[1:] + "a"},
		{Digits: "0"}, {Digits: "01"}, {Digits: "0", Cut: true}, {Digits: "01", Cut: true},
		{Digits: "10"}, {Digits: "120", Point: 5}, {Digits: full[1:] + "0"},
		{Digits: full + "7"}, {Digits: full + "7", Cut: true}, {Digits: strings.Repeat("1", 9000)},
		{Digits: "1", Point: api.MaxPoint + 1}, {Digits: "1", Point: -api.MaxPoint - 1}, {Digits: "1", Point: math.MaxInt}, {Digits: "1", Point: math.MinInt, Cut: true},
		{Cut: true}, {Point: 1}, {Point: -1}, {Point: api.MaxPoint, Cut: true},
	}
}

// cutDecimals are such as may be, but are Cut.
func cutDecimals() []api.Dec {
	full := strings.Repeat("7", api.MaxDigits)
	return []api.Dec{
		{Digits: "1", Cut: true}, {Digits: "1", Point: 1, Cut: true}, {Digits: "10", Point: 1, Cut: true}, {Digits: "5", Point: -323, Cut: true},
		{Digits: full, Point: 400, Cut: true}, {Digits: full[1:] + "0", Point: -400, Cut: true}, {Digits: "1", Point: api.MaxPoint, Cut: true}, {Digits: "1", Point: -api.MaxPoint, Cut: true},
	}
}

// Between any two small numbers, as all small numbers tell it that lie there, gone through from few digits on, and of as many from the least on.
func TestSH3AllSmallNumbers(t *testing.T) {
	const behind = 4
	value := func(d api.Dec) int { return int(whole(d, behind).Int64()) }
	var ends, all []api.Dec
	for n := int64(1); n < 1000; n++ {
		if n%10 == 0 {
			continue
		}
		digits := big.NewInt(n).String()
		for point := -1; point <= 1; point++ {
			d := number(digits, point)
			all = append(all, d)
			if len(digits) < 3 {
				ends = append(ends, d)
			}
		}
	}
	slices.SortFunc(all, func(a, b api.Dec) int {
		if len(a.Digits) != len(b.Digits) {
			return len(a.Digits) - len(b.Digits)
		}
		return value(a) - value(b)
	})
	for _, low := range ends {
		for _, high := range ends {
			from, to := value(low), value(high)
			if from >= to {
				continue
			}
			i := slices.IndexFunc(all, func(d api.Dec) bool { return value(d) > from && value(d) < to })
			wantSimplest(t, low, high, false, all[i], nil)
			i = slices.IndexFunc(all, func(d api.Dec) bool { return value(d) >= from && value(d) <= to })
			wantSimplest(t, low, high, true, all[i], nil)
		}
	}
}

// whole is a decimal with at most so many places behind the point, as a number of units of the last one.
func whole(d api.Dec, places int) *big.Int {
	n, _ := new(big.Int).SetString(d.Digits, 10)
	return n.Mul(n, tens[d.Point-len(d.Digits)+places])
}

// simplest is what the chapter's words say of two numbers of units: the fewest digits there are between them, and of the numbers with so many the least.
func simplest(low, high *big.Int, closed bool, places int) (api.Dec, bool) {
	r := truth{low: low, high: high, closed: closed}
	for n := 1; n <= api.MaxDigits; n++ {
		if list := r.list(n, 1); len(list) > 0 {
			return decimal(list[0], places), true
		}
	}
	return api.Dec{}, false
}

// Ends that have a row of digits in common, of all lengths, told by whole numbers.
func TestSH3LongEnds(t *testing.T) {
	const behind = api.MaxDigits + 5
	c := chance(4)
	nothing := 0
	for range 400 {
		common := ""
		if n := c.within(0, 60); n > 0 {
			common = c.digits(n)
		}
		if c.word()%4 == 0 {
			common = c.digits(c.within(api.MaxDigits-3, api.MaxDigits-1))
		}
		var ends [2]api.Dec
		for i := range ends {
			room := min(30, api.MaxDigits-len(common))
			ends[i] = number(common+c.digits(c.within(1, room)), c.within(0, 3)/3)
		}
		low, high := whole(ends[0], behind), whole(ends[1], behind)
		if low.Cmp(high) > 0 {
			low, high, ends[0], ends[1] = high, low, ends[1], ends[0]
		}
		if low.Cmp(high) == 0 {
			continue
		}
		for _, closed := range []bool{false, true} {
			want, ok := simplest(low, high, closed, behind)
			refused := error(nil)
			if !ok {
				nothing++
				refused = api.ErrRange
			}
			wantSimplest(t, ends[0], ends[1], closed, want, refused)
		}
	}
	if nothing == 0 {
		t.Error("between all ends is something")
	}
}

// An answer that is an end itself shares no memory with it.
func TestSH3NewMemory(t *testing.T) {
	for _, ends := range [][2]api.Dec{{number(full("7", "1"), 5), number(full("7", "2"), 5)}, {number("123", 1), number("124", 1)}, {number("15", 1), number("2", 1)}} {
		low, high := number(strings.Clone(ends[0].Digits), ends[0].Point), number(strings.Clone(ends[1].Digits), ends[1].Point)
		d, err := Simplest(low, high, true)
		if d != ends[0] && d != ends[1] || err != nil {
			t.Errorf("Simplest(%s, %s, true): %s, %v", told(low), told(high), told(d), err)
		}
		for _, end := range []api.Dec{low, high} {
			if unsafe.StringData(d.Digits) == unsafe.StringData(end.Digits) {
				t.Errorf("Simplest(%s, %s, true) is the end itself", told(low), told(high))
			}
		}
		if low != ends[0] || high != ends[1] {
			t.Errorf("an argument was changed: %s, %s", told(low), told(high))
		}
	}
}
