package ints

import (
	"errors"
	"math"
	"numeral/api"
	"numeral/fault"
	"numeral/uints"
)

// Parse is the integer of a text.
func Parse(s string, base int) (int64, error) {
	neg, ahead := sign(s)
	n, err := uints.Parse(s[ahead:], base)
	v, err := nearest(neg, n, err)
	return v, fault.Wrap("Parse", s, err)
}

// Prefix is the integer at the begin of a text, and its length.
func Prefix(s string, base int) (int64, int, error) {
	neg, ahead := sign(s)
	n, length, err := uints.Prefix(s[ahead:], base)
	v, err := nearest(neg, n, err)
	if length > 0 {
		// A sign counts only with a magnitude behind it: alone it is no begin.
		length += ahead
	}
	return v, length, fault.Wrap("Prefix", s, err)
}

// sign tells whether a text begins with a minus, and how many bytes its sign has.
func sign(s string) (neg bool, length int) {
	if s == "" {
		return false, 0
	}
	switch s[0] {
	case '-':
		neg = true
		fallthrough
	case '+':
		length = 1
	}
	return neg, length
}

// nearest is the integer of a sign and of what uints read behind it, or the bound next to that, with ErrRange. A magnitude out of uints' own range comes as the greatest of its numbers, which lies beyond both bounds here.
func nearest(neg bool, n uint64, err error) (int64, error) {
	if err != nil && !errors.Is(err, api.ErrRange) {
		return 0, fault.Why(err)
	}
	if v, ok := Make(neg, n); ok {
		return v, nil
	}
	if neg {
		return math.MinInt64, api.ErrRange
	}
	return math.MaxInt64, api.ErrRange
}
