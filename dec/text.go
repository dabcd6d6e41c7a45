package dec

import (
	"strconv"
	"strings"

	"numeral/api"
)

// What stands in a text around the digits and the point.
const (
	nought  = "0"
	ahead   = "0."
	between = "e"
	behind  = "+"
)

// Text tells a number.
func Text(d api.Dec) string {
	if Valid(d) != nil {
		return ""
	}
	if d.Digits == "" {
		return nought
	}
	text := ahead + d.Digits + between + strconv.Itoa(d.Point)
	if d.Cut {
		text += behind
	}
	return text
}

// Read is the number that is told so.
func Read(s string) (api.Dec, error) {
	if s == nought {
		return api.Dec{}, nil
	}
	d := taken(s)
	// A number has one text alone: what is told otherwise (a + ahead of the point, needless noughts) was not that text.
	if Text(d) != s {
		return api.Dec{}, api.ErrSyntax
	}
	d.Digits = strings.Clone(d.Digits)
	return d, nil
}

// taken is what a text has where a number's text has its digits, its point and its mark of more; of a text without such places, 0.
func taken(s string) api.Dec {
	rest, _ := strings.CutPrefix(s, ahead)
	rest, cut := strings.CutSuffix(rest, behind)
	digits, exponent, _ := strings.Cut(rest, between)
	point, err := strconv.Atoi(exponent)
	if err != nil {
		return api.Dec{}
	}
	return api.Dec{Digits: digits, Point: point, Cut: cut}
}
