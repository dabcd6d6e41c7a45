package parse

import (
	"numeral/api"
	"numeral/bits"
	"numeral/compare"
	"numeral/exact"
	"numeral/hexin"
	"numeral/meter"
	"numeral/product"
)

// The roads of a decimal, in the order in which they are tried. Their numbers are the meter's.
const (
	small = meter.Exact + iota
	table
	long
)

// wordDigits is how many decimal digits a word surely holds.
const wordDigits = 19

// value is the float that the parts of a text denote; the infinity with ErrRange, if the number is beyond.
func value(p api.Parts, size int, m *meter.Meter) (uint64, error) {
	switch p.Kind {
	case api.TextNaN:
		return bits.NaN(size)
	case api.TextInf:
		return bits.Inf(p.Neg, size)
	case api.TextHex:
		// Where a text's hexadecimal is cut, it fills more of a word than a float keeps: so its nearest float is always told.
		return hexin.Of(p, size)
	}
	// A nought is its sign's bit alone, which every other float of that sign has, too.
	sign, _ := bits.Zero(p.Neg, size)
	if p.Dec == (api.Dec{}) {
		return sign, nil
	}
	float, err := magnitude(p.Dec, size, m)
	return sign | float, err
}

// magnitude is a decimal that is not 0, rounded, by the first road that is sure; the infinity with ErrRange, if it is beyond.
func magnitude(d api.Dec, size int, m *meter.Meter) (float uint64, err error) {
	h := headOf(d)
	switch h.firstRoad() {
	case small:
		if near, sure, _ := exact.Of(h.mant, h.exp, size); sure {
			m.Road(small)
			return near, nil
		}
		fallthrough
	case table:
		if near, sure := product.Round(h.mant, h.exp, h.more, size); sure {
			m.Road(table)
			return near, beyond(near, size)
		}
		fallthrough
	case long:
		// It tells the meter by itself that it was taken.
		float, err = compare.Nearest(d, size, m)
	}
	return float, err
}

// beyond is ErrRange of the infinity.
func beyond(float uint64, size int) error {
	if inf, _ := bits.Inf(false, size); float == inf {
		return api.ErrRange
	}
	return nil
}

// head is what a word holds of a decimal: mant times ten to the exp, and whether there is more behind that.
type head struct {
	mant uint64
	exp  int
	more bool
}

// headOf is the head of a decimal that is not 0.
func headOf(d api.Dec) head {
	digits := d.Digits[:min(len(d.Digits), wordDigits)]
	h := head{exp: d.Point - len(digits)}
	for i := range len(digits) {
		h.mant = h.mant*10 + uint64(digits[i]-'0')
	}
	// The last digit of what is not cut is no nought: so digits that are left over are something.
	h.more = d.Cut || len(digits) < len(d.Digits)
	return h
}

// firstRoad is the first road that can be sure. The small one takes a head for the whole number.
func (h head) firstRoad() int {
	if h.more {
		return table
	}
	return small
}
