package hexin

import (
	"math"
	"math/big"
	"testing"

	"numeral/api"
	"numeral/bits"
)

// floats calls do with finite floats, without a sign: those at the edges, and n all over the size.
func (f format) floats(n uint64, do func(float uint64)) {
	hidden := uint64(1) << (f.places - 1)
	for _, float := range []uint64{0, 1, 2, 3, hidden/2 - 1, hidden / 2, hidden - 1, hidden, hidden + 1, 2*hidden - 1, 2 * hidden, f.inf()/2 + 1, f.inf() - hidden - 1, f.inf() - hidden, f.inf() - 2, f.inf() - 1} {
		do(float)
	}
	step := f.inf()/n | 1
	for i := range n {
		do((i*step ^ i*i) % f.inf())
	}
}

// A float's own mantissa and exponent give that float.
func TestHI3ThereAndBack(t *testing.T) {
	for _, f := range formats {
		f.floats(50000, func(float uint64) {
			for _, neg := range signs {
				b := f.signed(float, neg)
				p, err := bits.Unpack(b, f.size)
				if err != nil {
					t.Fatal(err)
				}
				wantRound(t, p.Neg, p.Mant, p.Exp, false, f.size, b, nil)
			}
		})
	}
}

// What is a float exactly is that, however its mantissa is written.
func TestHI3HowItIsWritten(t *testing.T) {
	for _, f := range formats {
		f.floats(500, func(float uint64) {
			p, _ := bits.Unpack(float, f.size)
			for m, exp := p.Mant, p.Exp; m != 0; m, exp = m/2, exp+1 {
				wantRound(t, true, m, exp, false, f.size, f.signed(float, true), nil)
				if m%2 == 1 {
					break
				}
			}
			for m, exp := p.Mant, p.Exp; m != 0 && m < 1<<63; m, exp = m*2, exp-1 {
				wantRound(t, false, m, exp, false, f.size, float, nil)
			}
		})
	}
}

// wantDoubled asks that twice the mantissa with one less in the exponent changes nothing. With more there is half as much behind it then: what was sure stays so.
func (f format) wantDoubled(t *testing.T, m uint64, exp int) {
	t.Helper()
	if m >= 1<<63 || exp == math.MinInt {
		return
	}
	for _, neg := range signs {
		want, refused := Round(neg, m, exp, false, f.size)
		wantRound(t, neg, 2*m, exp-1, false, f.size, want, refused)
		if want, refused = Round(neg, m, exp, true, f.size); refused != api.ErrArg {
			wantRound(t, neg, 2*m, exp-1, true, f.size, want, refused)
		}
	}
}

func TestHI3Doubled(t *testing.T) {
	c := chance(6)
	for _, f := range formats {
		for _, m := range words() {
			for _, exp := range f.exps(m) {
				f.wantDoubled(t, m, exp)
			}
			for _, exp := range append(farUp, farDown...) {
				f.wantDoubled(t, m, exp)
			}
		}
		for range 20000 {
			f.wantDoubled(t, c.upTo(63), c.within(f.least-70, f.most+60))
		}
	}
}

// value is a finite float in units, by layer 11's parts; of the infinity it is the power of two behind the greatest float.
func (f format) value(float uint64) *big.Int {
	p, _ := bits.Unpack(float, f.size)
	if p.Class == api.ClassInf {
		return scaled(big.NewInt(1), f.most+f.places)
	}
	return scaled(word(p.Mant), p.Exp)
}

// apart is how far a float is from x.
func (f format) apart(x *big.Int, float uint64) *big.Int {
	way := new(big.Int).Sub(x, f.value(float))
	return way.Abs(way)
}

// No float lies nearer to the number than the answer does, and half way its last bit is 0.
func TestHI1Nearest(t *testing.T) {
	c := chance(7)
	for _, f := range formats {
		ties := 0
		hold := func(m uint64, exp int) {
			x := scaled(word(m), exp)
			if x.Cmp(f.value(f.inf())) >= 0 {
				return
			}
			float, _ := Round(false, m, exp, false, f.size)
			there := f.apart(x, float)
			for _, step := range []func(uint64, int) (uint64, error){bits.Prev, bits.Next} {
				other, err := step(float, f.size)
				if err != nil {
					// There is none below a nought, none beyond the infinity.
					continue
				}
				n := there.Cmp(f.apart(x, other))
				if n > 0 || n == 0 && float%2 == 1 {
					t.Errorf("Round(false, %#x, %d, false, %d) = %#x, but %#x is as near or nearer", m, exp, f.size, float, other)
				}
				if n == 0 {
					ties++
				}
			}
		}
		for _, m := range words() {
			for _, exp := range f.exps(m) {
				hold(m, exp)
			}
		}
		for range 5000 {
			hold(c.word()>>(63-f.places), c.within(f.least-20, f.most))
			hold(c.upTo(64), c.within(f.least-70, f.most))
		}
		if ties < 1000 {
			t.Errorf("of size %d %d numbers half way", f.size, ties)
		}
	}
}
