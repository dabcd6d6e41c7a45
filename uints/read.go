package uints

import (
	"math"
	"numeral/api"
	bases "numeral/base"
	"numeral/fault"
)

// Parse is the number of a text in a base; 0: the text's prefix says it.
func Parse(s string, base int) (uint64, error) {
	if !readable(base) {
		return 0, fault.Wrap("Parse", s, api.ErrBase)
	}
	of, ahead, length := begin(s, base)
	if length == 0 || length < len(s) {
		return 0, fault.Wrap("Parse", s, api.ErrSyntax)
	}
	v, err := value(s[ahead:], of)
	return v, fault.Wrap("Parse", s, err)
}

// Prefix is how many bytes of a text, from its begin on, are a number, and that.
func Prefix(s string, base int) (uint64, int, error) {
	if !readable(base) {
		return 0, 0, fault.Wrap("Prefix", s, api.ErrBase)
	}
	of, ahead, length := begin(s, base)
	if length == 0 {
		return 0, 0, fault.Wrap("Prefix", s, api.ErrSyntax)
	}
	v, err := value(s[ahead:length], of)
	return v, length, fault.Wrap("Prefix", s, err)
}

// readable tells whether texts are read in a base.
func readable(base int) bool { return base == 0 || bases.Valid(base) }

// begin finds the longest begin of a text that is in the grammar of a base: its digits' base, how many of its bytes stand ahead of them, and how many it has, 0 of none.
func begin(s string, base int) (of, ahead, length int) {
	if base != 0 {
		length, _ = bases.Head(s, base)
		return base, 0, length
	}
	of, ahead = bases.Prefix(s)
	length = reach(s, of, ahead)
	if ahead > 0 && length == ahead {
		// No digit stands behind the prefix, but every prefix begins with a `0`, and that alone is a number.
		return 10, 0, 1
	}
	return of, ahead, length
}

// reach is how far digits of a base go in a text, with underscores among them, from behind so many bytes on that stand ahead.
func reach(s string, base, ahead int) int {
	digit := func(i int) bool {
		n, ok := bases.Value(s[i])
		return ok && n < base
	}
	between := func(i int) bool {
		joins := i > ahead && digit(i-1) || i == ahead && ahead > 0
		return joins && i+1 < len(s) && digit(i+1)
	}
	end := ahead
	for end < len(s) && (digit(end) || s[end] == '_' && between(end)) {
		end++
	}
	return end
}

// value is the number of digits of a base; beyond the greatest one, it is that with ErrRange. What is no digit here is an underscore.
func value(digits string, base int) (uint64, error) {
	v, b := uint64(0), uint64(base)
	for i := range len(digits) {
		n, ok := bases.Value(digits[i])
		if !ok {
			continue
		}
		d := uint64(n)
		// It is asked by a quotient, as a product past the word would wrap round.
		if v > (math.MaxUint64-d)/b {
			return math.MaxUint64, api.ErrRange
		}
		v = v*b + d
	}
	return v, nil
}
