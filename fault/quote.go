package fault

import (
	"numeral/api"
	"strings"
)

const (
	quote  = '"'
	escape = '\\'
	digits = "0123456789abcdef"
)

// Quote tells a text on one line.
func Quote(s string) string {
	var b strings.Builder
	b.Grow(len(s) + 2)
	b.WriteByte(quote)
	for i := range len(s) {
		c := s[i]
		switch {
		case !plain(c):
			b.WriteByte(escape)
			b.WriteByte('x')
			b.WriteByte(digits[c>>4])
			b.WriteByte(digits[c&15])
		case special(c):
			b.WriteByte(escape)
			b.WriteByte(c)
		default:
			b.WriteByte(c)
		}
	}
	b.WriteByte(quote)
	return b.String()
}

// Unquote is the text that is told so.
func Unquote(s string) (string, error) {
	if len(s) < 2 || s[0] != quote || s[len(s)-1] != quote {
		return "", api.ErrSyntax
	}
	inner := s[1 : len(s)-1]
	var b strings.Builder
	b.Grow(len(inner))
	for inner != "" {
		c, size := told(inner)
		if size == 0 {
			return "", api.ErrSyntax
		}
		b.WriteByte(c)
		inner = inner[size:]
	}
	return b.String(), nil
}

// told is the byte that Quote tells first in s, and of how many bytes it makes it; 0 of them, if Quote never writes so: each byte has one way to be told, so that no two texts that Unquote takes are the same one.
func told(s string) (c byte, size int) {
	switch {
	case s[0] != escape:
		if plain(s[0]) && !special(s[0]) {
			return s[0], 1
		}
	case len(s) >= 2 && special(s[1]):
		return s[1], 2
	case len(s) >= 4 && s[1] == 'x':
		high, low := strings.IndexByte(digits, s[2]), strings.IndexByte(digits, s[3])
		if high >= 0 && low >= 0 && !plain(byte(high<<4|low)) {
			return byte(high<<4 | low), 4
		}
	}
	return 0, 0
}

// plain says whether a byte stands in a quote as itself, perhaps behind an escape.
func plain(c byte) bool { return c >= 32 && c <= 126 }

// special says whether a plain byte needs the escape, since it means something else in a quote.
func special(c byte) bool { return c == quote || c == escape }
