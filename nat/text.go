package nat

import (
	"math"
	"slices"
	"strings"

	"numeral/api"
)

const (
	digits  = "0123456789abcdefghijklmnopqrstuvwxyz"
	minBase = 2
	maxBase = len(digits)
)

// isBase says whether a base is one.
func isBase(base int) bool { return minBase <= base && base <= maxBase }

// Digits is a number's digits.
func Digits(a Nat, base int) (string, error) {
	if err := Valid(a); err != nil {
		return "", err
	}
	if !isBase(base) {
		return "", api.ErrBase
	}
	if len(a) == 0 {
		return "0", nil
	}
	rest := make(Nat, len(a))
	copy(rest, a)
	count, power := chunk(base)
	var text []byte
	for len(rest) > 0 {
		text = appendLowest(text, divideBy(rest, power), count, base)
		rest = trim(rest)
	}
	slices.Reverse(text)
	return strings.TrimLeft(string(text), "0"), nil
}

// chunk is how many digits of a base a word surely holds, and the base to that power: so many are reckoned with at once.
func chunk(base int) (int, uint64) {
	count, power := 0, uint64(1)
	for power <= math.MaxUint64/uint64(base) {
		count++
		power *= uint64(base)
	}
	return count, power
}

// appendLowest lays so many digits of x behind a text, the lowest first, noughts too.
func appendLowest(text []byte, x uint64, count, base int) []byte {
	for range count {
		text = append(text, digits[x%uint64(base)])
		x /= uint64(base)
	}
	return text
}

// Read is the number of digits.
func Read(s string, base int) (Nat, error) {
	if !isBase(base) {
		return nil, api.ErrBase
	}
	// The whole text is looked at first: a wrong byte behind too many digits is still a wrong text.
	if !areDigits(s, base) {
		return nil, api.ErrDigits
	}
	count, _ := chunk(base)
	var z Nat
	for rest := strings.TrimLeft(s, "0"); rest != ""; {
		n := min(count, len(rest))
		scale, value := smallValue(rest[:n], base)
		var err error
		if z, err = fit(timesPlus(z, scale, value)); err != nil {
			return nil, err
		}
		rest = rest[n:]
	}
	return z, nil
}

// areDigits says whether s is digits of a base, one at least.
func areDigits(s string, base int) bool {
	for i := range len(s) {
		if digitValue(s[i]) >= base {
			return false
		}
	}
	return s != ""
}

// digitValue is a digit's value, or one that no base has.
func digitValue(c byte) int {
	switch {
	case '0' <= c && c <= '9':
		return int(c - '0')
	case 'a' <= c && c <= 'z':
		return int(c-'a') + 10
	case 'A' <= c && c <= 'Z':
		return int(c-'A') + 10
	}
	return maxBase
}

// smallValue is the value of digits that a word holds, and the base to the power of their count.
func smallValue(s string, base int) (uint64, uint64) {
	scale, value := uint64(1), uint64(0)
	for i := range len(s) {
		scale *= uint64(base)
		value = value*uint64(base) + uint64(digitValue(s[i]))
	}
	return scale, value
}
