package shortest

import (
	"strings"

	"numeral/api"
	"numeral/dec"
	"numeral/interval"
)

// span is what lies between two ends, the low one first; the ends do, too, if it is closed.
type span struct {
	ends   [2]api.Dec
	closed bool
}

// spanOf is a float's interval, and its exact value.
func spanOf(float uint64, size int) (span, api.Dec, error) {
	low, high, closed, err := interval.Bounds(float, size)
	if err != nil {
		return span{}, api.Dec{}, err
	}
	value, _ := interval.Exact(float, size)
	return span{ends: [2]api.Dec{low, high}, closed: closed}, value, nil
}

// holds says whether a number that is not Cut lies there.
func (s span) holds(d api.Dec) bool {
	inward := [2]int{1, -1}
	for i, end := range s.ends {
		order, _ := dec.Compare(d, end)
		if order != inward[i] && (order != 0 || !s.closed) {
			return false
		}
	}
	return true
}

// seek goes from few digits to many, and answers the first number that lies there of those that tries tells.
func (s span) seek(few, many int, tries func(n int) []api.Dec) (api.Dec, bool) {
	var found api.Dec
	ok := false
digits:
	for n := few; n <= many; n++ {
		for _, d := range tries(n) {
			if s.holds(d) {
				found, ok = d, true
				break digits
			}
		}
	}
	return found, ok
}

// nearest is what lies there nearest to a value between the ends, with as few of so many digits as can be.
func (s span) nearest(value api.Dec, few, many int) (api.Dec, bool) {
	return s.seek(few, many, func(n int) []api.Dec {
		// Where the nearest one is out, the next one up may not be: at powers of two an interval reaches farther up than down, and nowhere the other way round.
		near, _ := dec.Round(value, n)
		up, _ := dec.Up(value, n)
		return []api.Dec{near, up}
	})
}

// least is the least number that lies there, with as few digits as can be; 0, if it does, has none.
func (s span) least() (api.Dec, bool) {
	from := s.ends[0]
	if !s.closed {
		// With more behind the last digit that may be, numbers that are not below it are above the end itself.
		from.Digits += strings.Repeat("0", api.MaxDigits-len(from.Digits))
		from.Cut = true
	}
	return s.seek(1, api.MaxDigits, func(n int) []api.Dec {
		// What is too great to be would be above the high end; told as 0 it is below the low one, and so out as well.
		up, _ := dec.Up(from, n)
		return []api.Dec{up}
	})
}
