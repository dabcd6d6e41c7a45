package parse

import (
	"math"
	"strconv"
	"strings"
	"testing"

	"numeral/api"
	"numeral/meter"
)

// roads is how many were counted.
func roads(t meter.Tally) int { return t.Exact + t.Table + t.Slow }

// roadsOf is how many roads a text takes: one, if it is a decimal that is not 0.
func roadsOf(s string) int {
	number, _, _ := strings.Cut(strings.ToLower(s), "e")
	if !grammar.MatchString(s) || strings.ContainsAny(number, "xn") || !strings.ContainsAny(number, "123456789") {
		return 0
	}
	return 1
}

// metered are texts of all kinds, those of the long road and of many digits among them.
func metered() []string {
	list := append([]string{}, texts...)
	for _, f := range formats {
		for _, float := range []uint64{0, 1, f.hidden() - 1, f.hidden(), f.one(), f.most() - 1, f.most()} {
			d := f.half(float).decimal()
			for _, d := range []decimal{d, d.above(0), d.below(1), d.above(900), d.below(900), d.below(20000)} {
				list = append(list, d.at(d.point), d.at(1), "-"+d.at(len(d.digits)))
			}
		}
	}
	for _, n := range []int{799, 800, 801, 20000} {
		for _, digit := range []string{"1", "9"} {
			row := strings.Repeat(digit, n)
			list = append(list, row, "."+row, row+"e-"+strconv.Itoa(n), row+"e-"+strconv.Itoa(n+320), row+"e99999999999999999999", row+"e-99999999999999999999", "0x"+row+"p-9", row+"x")
		}
	}
	return list
}

// One road is counted for each decimal number that is not 0, and none for other texts; no word lives behind the call, and not too many lived at once. Without a meter the answer is the same.
func TestPS4OneRoad(t *testing.T) {
	var all meter.Tally
	for _, s := range metered() {
		for _, f := range formats {
			m := meter.New()
			b, err := Parse(s, f.size, m)
			got := m.Tally()
			if roads(got) != roadsOf(s) || got.Live != 0 || got.Peak > api.BigCap {
				t.Errorf("%s: %s, want %d roads", told("Parse", f.size, s), m.Text(), roadsOf(s))
			}
			if again, other := Parse(s, f.size, nil); again != b || (other == nil) != (err == nil) {
				t.Errorf("%s: without a meter %#x, %v, with one %#x, %v", told("Parse", f.size, s), again, other, b, err)
			}
			all.Exact, all.Table, all.Slow = all.Exact+got.Exact, all.Table+got.Table, all.Slow+got.Slow
			m.Reset()
			if Prefix(s, f.size, m); m.Tally() != got && grammar.MatchString(s) {
				t.Errorf("%s: %s, want %+v", told("Prefix", f.size, s), m.Text(), got)
			}
		}
		for _, size := range noSizes {
			m := meter.New()
			Parse(s, size, m)
			Prefix(s, size, m)
			All([]string{s}, size, m)
			if m.Tally() != (meter.Tally{}) {
				t.Errorf("%s: %s", told("Parse", size, s), m.Text())
			}
		}
	}
	// There are texts for each road among these.
	if all.Exact == 0 || all.Table == 0 || all.Slow == 0 {
		t.Errorf("roads: %+v", all)
	}
}

// How far the long road may not be taken.
var notSlow = []struct {
	f            format
	digits, tens int
}{{formats[0], 7, 10}, {formats[1], 15, 22}}

// wantQuick asks for a road, but not for the long one, of a decimal in all ways of writing it; for any road, if it lies outside the bounds.
func wantQuick(t *testing.T, f format, digits string, exp int, quick bool) {
	t.Helper()
	d := decimal{digits, len(digits) + exp}
	for _, s := range d.written() {
		f.wantRight(t, s)
		for _, sign := range []string{"", "+", "-"} {
			m := meter.New()
			Parse(sign+s, f.size, m)
			if got := m.Tally(); roads(got) != 1 || quick && got.Slow != 0 || quick && got.Peak != 0 {
				t.Errorf("%s: %s", told("Parse", f.size, sign+s), m.Text())
			}
		}
	}
}

func TestPS4NotSlow(t *testing.T) {
	c := chance(6)
	for _, n := range notSlow {
		for exp := -n.tens - 2; exp <= n.tens+2; exp++ {
			for length := 1; length <= n.digits+2; length++ {
				quick := -n.tens <= exp && exp <= n.tens && length <= n.digits
				row := "1" + c.digits(length) + c.digits(1)
				for _, digits := range []string{strings.Repeat("9", length), strings.Repeat("1", length), row[:length-1] + "7"} {
					wantQuick(t, n.f, digits, exp, quick)
				}
			}
		}
	}
}

// The digits are counted from the first one that is not 0 to the last such one, wherever the point stands, and whatever the text's own exponent is.
func TestPS4NoughtsDoNotCount(t *testing.T) {
	for _, c := range []struct {
		s    string
		size int
	}{
		{"123456789012345e22", 64}, {"123456789012345e-22", 64}, {"1e22", 64}, {"1e-22", 64}, {"1.5", 64}, {"0.000001", 64},
		{"0.000000000000000000000000000123456789012345e20", 64}, {"12345678901234500000000000000000000000", 64}, {"1.23456789012345000000000000000000000000000e36", 64}, {strings.Repeat("0", 900) + "1." + strings.Repeat("0", 900), 64},
		{"1" + strings.Repeat("0", 900) + "e-900", 64}, {"." + strings.Repeat("0", 900) + "999999999999999e915", 64}, {"1" + strings.Repeat("0", 5000) + "e-5022", 64}, {"10000000000000000000000", 64},
		{"9999999e10", 32}, {"9999999e-10", 32}, {"1e10", 32}, {"1e-10", 32}, {"99999990000000000", 32}, {"0.0009999999", 32}, {"0.00000000000000000009999999e17", 32}, {"1" + strings.Repeat("0", 900) + "e-910", 32}, {"3.25", 32},
	} {
		m := meter.New()
		_, err := Parse("-"+c.s, c.size, m)
		if got := m.Tally(); err != nil || got.Slow != 0 || roads(got) != 1 {
			t.Errorf("%s: %s, %v", told("Parse", c.size, c.s), m.Text(), err)
		}
	}
}

// Behind each call Live is what it was ahead, in a meter that is full or nearly so, too; roads are counted beside those that were.
func TestPS4Live(t *testing.T) {
	list := metered()
	for _, live := range []int{0, 1, 7, api.BigCap, 1 << 40, math.MaxInt - 200, math.MaxInt - 3, math.MaxInt} {
		for _, s := range list {
			for _, size := range []int{32, 64, 0, 33} {
				m := meter.New()
				m.Add(meter.Tally{Live: live, Exact: 3, Table: 4, Slow: 5})
				want := roadsOf(s)
				if size != 32 && size != 64 {
					want = 0
				}
				Parse(s, size, m)
				got := m.Tally()
				if got.Live != live || roads(got) != 12+want || got.Exact < 3 || got.Table < 4 || got.Slow < 5 {
					t.Errorf("%s with %d that live: %s", told("Parse", size, s), live, m.Text())
				}
				Prefix(s, size, m)
				All([]string{s, s}, size, m)
				if m.Live() != live {
					t.Errorf("%s with %d that live: %s", told("Prefix", size, s), live, m.Text())
				}
			}
		}
	}
}

// All counts a road for each decimal up to the one that fails, and no more words than for the one that takes most.
func TestPS4All(t *testing.T) {
	for _, f := range formats {
		half := f.half(f.one()).decimal()
		l := []string{"1", "0", "nan", half.at(1), "0x1p0", half.above(900).at(1), half.below(900).at(1), "-inf", "1e-400", "1.5e22"}
		want := meter.Tally{}
		for _, s := range l {
			m := meter.New()
			Parse(s, f.size, m)
			got := m.Reset()
			want = meter.Tally{Peak: max(want.Peak, got.Peak), Exact: want.Exact + got.Exact, Table: want.Table + got.Table, Slow: want.Slow + got.Slow}
		}
		m := meter.New()
		if _, _, err := All(l, f.size, m); err != nil || m.Tally() != want || roads(want) != 6 || want.Peak > api.BigCap {
			t.Errorf("All(.., %d): %v, %s, want %+v", f.size, err, m.Text(), want)
		}
		m.Reset()
		All([]string{"1", "1e400", "2"}, f.size, m)
		if roads(m.Tally()) != 2 {
			t.Errorf("All with one beyond, of %d: %s", f.size, m.Text())
		}
		m.Reset()
		All([]string{"1", "x", "2"}, f.size, m)
		if roads(m.Tally()) != 1 {
			t.Errorf("All with one outside the grammar, of %d: %s", f.size, m.Text())
		}
	}
}

// Over many texts one meter counts one road for each.
func TestPS4ManyTexts(t *testing.T) {
	c := chance(7)
	for _, f := range formats {
		m := meter.New()
		want := 0
		for range 3000 {
			s := c.text(60, f)
			Parse(s, f.size, m)
			want += roadsOf(s)
		}
		if got := m.Tally(); roads(got) != want || got.Live != 0 || got.Peak > api.BigCap {
			t.Errorf("of size %d: %s, want %d roads", f.size, m.Text(), want)
		}
	}
}
