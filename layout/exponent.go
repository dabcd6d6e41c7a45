package layout

import (
	"numeral/api"
	"numeral/ints"
)

// The exponents that the layouts g and G tell: from the one on downwards, and, where no precision asks for more digits, from the other on upwards.
const (
	smallTold = -5
	greatTold = 6
)

// Exponent is an exponent's text.
func Exponent(n int, upper bool) string {
	letter := "e"
	if upper {
		letter = "E"
	}
	// This base and this length are never refused.
	digits, _ := ints.Pad(int64(n), 10, 2, true)
	return letter + digits
}

// exponent is that of a number's first digit.
func exponent(d api.Dec) int {
	if d.Digits == "" {
		return 0
	}
	return d.Point - 1
}

// far tells whether the layouts g and G tell a number's exponent. (Where the document's limit is how many digits there are, and not the precision, the exponent is below both: so that is not asked.)
func far(d api.Dec, prec int) bool {
	limit := max(prec, 1)
	if prec == all {
		limit = greatTold
	}
	return exponent(d) <= smallTold || exponent(d) >= limit
}
