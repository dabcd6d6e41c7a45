package hasty

import (
	"strconv"
	"strings"

	"numeral/api"
	"numeral/powers"
)

// halves are halves of a unit: whole ones, and whether there is more behind them.
type halves struct {
	whole uint64
	more  bool
}

// rounded is the number of at most n digits that is nearest to so many halves of ten to the place, of two as near the one whose last place is even. They are n digits, or one more.
func (h halves) rounded(place, n int) api.Dec {
	step := uint64(2)
	if limit, _ := powers.Ten(n); h.whole >= 2*limit {
		step *= 10
		place++
	}
	times := h.whole / step
	rest, half := h.whole-times*step, step/2
	if rest > half || rest == half && (h.more || times%2 == 1) {
		times++
	}
	digits := strconv.FormatUint(times, 10)
	return api.Dec{Digits: strings.TrimRight(digits, "0"), Point: len(digits) + place}
}
