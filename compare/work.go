package compare

import (
	"numeral/api"
	"numeral/bits"
	"numeral/meter"
	"numeral/nat"
	"numeral/round"
)

const (
	// headDigits is how many digits a word surely holds: they tell a number more finely than floats do.
	headDigits = 19
	// From these points on a decimal is beyond all floats, or, if it is not 0, below half of the least one.
	farUp   = 310
	farDown = -324
)

// work is that of one call: its meter, and the decimal as a fraction, without what was cut.
type work struct {
	*meter.Meter
	over, under nat.Nat
	cut         bool
}

// take says that the words of these numbers live.
func (w *work) take(numbers ...nat.Nat) {
	for _, a := range numbers {
		w.Take(len(a))
	}
}

// letGo says that no more words live than then. What was taken in between is asked of the meter: a full one has counted less than that.
func (w *work) letGo(then int) { w.Give(w.Live() - then) }

// hold makes the decimal the call's.
func (w *work) hold(d api.Dec) {
	w.over, w.under = w.fraction(d.Digits, d.Point)
	w.cut = d.Cut
}

// fraction is 0.digits times ten to the point, brought near: further out it stands to all floats as it does there. So near, nothing here or in a product with a float's fraction has too many words.
func (w *work) fraction(digits string, point int) (over, under nat.Nat) {
	exp := max(farDown, min(point, farUp)) - len(digits)
	// What has no digits is read as 0, which is what it is here.
	whole, _ := nat.Read(digits, 10)
	tens, _ := nat.Power(10, max(0, exp))
	over, _ = nat.Mul(whole, tens)
	under, _ = nat.Power(10, max(0, -exp))
	w.take(whole, tens, over, under)
	return over, under
}

// against is -1, 0, 1: the decimal is below, is, is above n / d. What was cut decides only where nothing else does.
func (w *work) against(n, d nat.Nat) int {
	defer w.letGo(w.Live())
	left, _ := nat.Mul(w.over, d)
	right, _ := nat.Mul(n, w.under)
	w.take(n, d, left, right)
	order, _ := nat.Cmp(left, right)
	if order == 0 && w.cut {
		return 1
	}
	return order
}

// againstHalf is that of the place half way to the next float up.
func (w *work) againstHalf(float uint64, size int) int {
	n, d, _ := round.Half(float, size)
	return w.against(n, d)
}

// guess is the float that the decimal's first digits are rounded to. It is not above the answer, as they are not above the decimal.
func (w *work) guess(d api.Dec, size int) uint64 {
	defer w.letGo(w.Live())
	over, under := w.fraction(d.Digits[:min(headDigits, len(d.Digits))], d.Point)
	float, _ := round.Ratio(size, false, over, under, 0)
	return float
}

// up goes from a float that is not above the answer to the next ones, till the decimal is not beyond the place half way to one more.
func (w *work) up(float uint64, size int) (uint64, error) {
	inf, _ := bits.Inf(false, size)
steps:
	for float != inf {
		switch w.againstHalf(float, size) {
		case -1:
			break steps
		case 0:
			if float%2 == 0 {
				break steps
			}
		}
		float, _ = bits.Next(float, size)
	}
	if float == inf {
		return inf, api.ErrRange
	}
	return float, nil
}
