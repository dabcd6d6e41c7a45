package compare

import (
	"math"
	"strings"
	"testing"

	"numeral/api"
	"numeral/meter"
)

// call is one of the four, and how often it counts the road Slow where nothing but the range is refused.
type call struct {
	name string
	slow int
	do   func(d api.Dec, float uint64, size int, m *meter.Meter) error
}

func calls() []call {
	return []call{
		{"With", 0, func(d api.Dec, float uint64, size int, m *meter.Meter) error {
			_, err := With(d, float, size, m)
			return err
		}},
		{"Half", 0, func(d api.Dec, float uint64, size int, m *meter.Meter) error {
			_, err := Half(d, float, size, m)
			return err
		}},
		{"Nearest", 1, func(d api.Dec, _ uint64, size int, m *meter.Meter) error {
			_, err := Nearest(d, size, m)
			return err
		}},
		{"Settle", 1, func(d api.Dec, float uint64, size int, m *meter.Meter) error {
			_, err := Settle(d, float, size, m)
			return err
		}},
	}
}

// longest are decimals of as many digits as may be, at both ends of their points and of the floats, and at all that lie between.
func longest() []api.Dec {
	var list []api.Dec
	points := append([]int{}, farPoints...)
	for point := -330; point <= 315; point += 5 {
		points = append(points, point)
	}
	for _, point := range append(points, -323, -322, -45, 0, 39, 309) {
		for _, cut := range []bool{false, true} {
			for _, digit := range []string{"1", "9"} {
				list = append(list, api.Dec{Digits: strings.Repeat(digit, api.MaxDigits), Point: point, Cut: cut})
			}
		}
	}
	return list
}

// Words are taken, those of the digits at least, and not too many; behind the call none of them lives.
func TestCO4Words(t *testing.T) {
	for _, f := range formats {
		for _, c := range calls() {
			for _, d := range longest() {
				for _, float := range []uint64{0, 1, f.hidden(), f.one(), f.most()} {
					m := meter.New()
					c.do(d, float, f.size, m)
					// 800 nines, and as many ones, fill 42 words.
					if m.Live() != 0 || m.Peak() < 42 || m.Peak() > api.BigCap {
						t.Errorf("%s(%s, %#x, %d): %s", c.name, told(d), float, f.size, m.Text())
					}
				}
			}
			for _, d := range []api.Dec{{Digits: "1"}, {Digits: "5", Cut: true}, {Digits: "9007199254740993", Point: 16}} {
				m := meter.New()
				c.do(d, f.one(), f.size, m)
				if m.Live() != 0 || m.Peak() < 1 || m.Peak() > api.BigCap {
					t.Errorf("%s(%s, .., %d): %s", c.name, told(d), f.size, m.Text())
				}
			}
		}
	}
}

// Behind each call Live is what it was, with an error too, and in a meter that is full or nearly so; roads are counted beside those that were.
func TestCO4Live(t *testing.T) {
	decimals := append(someDecimals(), neverDecimals()...)
	for _, live := range []int{0, 1, 7, api.BigCap, 1 << 40, math.MaxInt - 200, math.MaxInt - 50, math.MaxInt - 3, math.MaxInt - 1, math.MaxInt} {
		for _, c := range calls() {
			for _, d := range decimals {
				for _, size := range []int{32, 64, 0, -1, 33} {
					for _, float := range []uint64{0, 1, 0x3f800000, 0x7f7fffff, 0x7f800000, 0x7fc00000, 1 << 31, 1 << 63} {
						m := meter.New()
						m.Add(meter.Tally{Live: live, Exact: 3, Table: 4, Slow: 5})
						slow := 5
						if err := c.do(d, float, size, m); err == nil || err == api.ErrRange {
							slow += c.slow
						}
						if want := (meter.Tally{Live: live, Peak: m.Peak(), Exact: 3, Table: 4, Slow: slow}); m.Tally() != want {
							t.Errorf("%s(%s, %#x, %d) with %d that live: %s", c.name, told(d), float, size, live, m.Text())
						}
					}
				}
			}
		}
	}
}

// Over many calls, one meter counts a road for each, and no more words than for the one that takes most.
func TestCO4ManyCalls(t *testing.T) {
	ran := chance(5)
	for _, f := range formats {
		m := meter.New()
		peak, slow := 0, 0
		for range 500 {
			d := ran.decimal(-330, 315)
			for _, c := range calls() {
				alone := meter.New()
				c.do(d, f.one(), f.size, alone)
				c.do(d, f.one(), f.size, m)
				peak = max(peak, alone.Peak())
				slow += c.slow
			}
		}
		if want := (meter.Tally{Peak: peak, Slow: slow}); m.Tally() != want {
			t.Errorf("of size %d: %s, want %+v", f.size, m.Text(), want)
		}
	}
}
