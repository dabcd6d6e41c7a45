package parse

import (
	"errors"
	"math/big"
	"strings"
	"testing"

	"numeral/api"
	"numeral/bits"
)

// from is how far two numbers are from each other.
func (x number) from(y number) number {
	diff := new(big.Int).Sub(new(big.Int).Mul(x.n, y.d), new(big.Int).Mul(y.n, x.d))
	return number{diff.Abs(diff), new(big.Int).Mul(x.d, y.d)}
}

// holdNearest asks for a float than which none is nearer to a decimal text's number, told by distances alone, and for ErrRange just where the number is not below half way beyond the greatest.
func (f format) holdNearest(t *testing.T, s string) {
	t.Helper()
	x := numberOf(t, s)
	b, err := Parse(s, f.size, nil)
	if beyond := x.cmp(f.half(f.most())) >= 0; errors.Is(err, api.ErrRange) != beyond || (b == f.inf()) != beyond || (err != nil) != beyond {
		t.Errorf("%s = %#x, %v, beyond: %v", told("Parse", f.size, s), b, err, beyond)
	}
	if b >= f.inf() {
		return
	}
	far := x.from(f.value(b))
	// Floats lie in a row: where its neighbours are no nearer, none is.
	for _, other := range []uint64{b - 1, b + 1} {
		if other > f.most() {
			continue
		}
		if c := x.from(f.value(other)).cmp(far); c < 0 || c == 0 && b%2 == 1 {
			t.Errorf("%s = %#x: %#x is as near, or nearer", told("Parse", f.size, s), b, other)
		}
	}
}

func TestPS5NoneNearer(t *testing.T) {
	c := chance(8)
	for _, f := range formats {
		for _, float := range f.named() {
			for _, d := range []decimal{f.value(float).decimal(), f.half(float).decimal()} {
				for _, s := range []string{d.at(d.point), d.at(1), d.above(0).at(1), d.above(900).at(d.point)} {
					f.holdNearest(t, s)
				}
				if d.digits != "0" {
					f.holdNearest(t, d.below(0).at(1))
					f.holdNearest(t, d.below(900).at(d.point))
				}
			}
		}
		for range 4000 {
			f.holdNearest(t, c.text(30, f))
		}
		for range 200 {
			f.holdNearest(t, c.text(1000, f))
		}
	}
}

// The exact expansion of a float is parsed to it, with its sign, however it is written.
func TestPS5Expansions(t *testing.T) {
	for _, f := range formats {
		hold := func(float uint64) {
			t.Helper()
			d := f.value(float).decimal()
			for _, s := range []string{d.at(d.point), d.at(1), d.at(len(d.digits))} {
				wantParse(t, s, f.size, float, 0)
				wantParse(t, "-"+s, f.size, f.sign()|float, 0)
			}
		}
		for _, float := range f.named() {
			hold(float)
			f.wantDecimal(t, f.value(float).decimal(), float)
		}
		// Where the exponent changes, all of them.
		for float := f.hidden(); float < f.inf(); float += f.hidden() {
			hold(float - 1)
			hold(float)
			hold(float + 1)
		}
		f.spread(1500, hold)
		// Denormal ones.
		for i := range uint64(300) {
			hold(i * (f.hidden() / 300))
			hold(i)
		}
	}
	for _, size := range []int{32, 64} {
		for _, neg := range []string{"", "-"} {
			want, _ := bits.Inf(neg == "-", size)
			wantParse(t, neg+"inf", size, want, 0)
		}
	}
}

// A text with its sign exchanged differs in the sign's bit alone, and the error is the same.
func TestPS5Signs(t *testing.T) {
	c := chance(9)
	for _, f := range formats {
		hold := func(s string) {
			t.Helper()
			bare := strings.TrimLeft(s, "+-")
			if !grammar.MatchString("+" + bare) {
				return
			}
			plain, err := Parse(bare, f.size, nil)
			plus, other := Parse("+"+bare, f.size, nil)
			minus, third := Parse("-"+bare, f.size, nil)
			if plus != plain || minus != plain|f.sign() || plain >= f.sign() {
				t.Errorf("%s = %#x, with + %#x, with - %#x", told("Parse", f.size, bare), plain, plus, minus)
			}
			for _, e := range []error{other, third} {
				if errors.Is(e, api.ErrRange) != errors.Is(err, api.ErrRange) || (e == nil) != (err == nil) {
					t.Errorf("%s: %v, with a sign %v", told("Parse", f.size, bare), err, e)
				}
			}
		}
		for _, s := range metered() {
			hold(s)
		}
		for range 3000 {
			hold(c.text(40, f))
		}
	}
}

// The floats do not fall as numbers rise from one float over half way places to the next ones.
func TestPS5Rising(t *testing.T) {
	const steps = 16
	for _, f := range formats {
		hold := func(float uint64) {
			t.Helper()
			low, high := f.value(float), f.value(float+2)
			if float+2 > f.most() {
				return
			}
			was := float
			for i := range int64(steps + 1) {
				n := new(big.Int).Mul(new(big.Int).Mul(low.n, high.d), big.NewInt(steps-i))
				n.Add(n, new(big.Int).Mul(new(big.Int).Mul(high.n, low.d), big.NewInt(i)))
				d := new(big.Int).Mul(low.d, high.d)
				x := number{n, d.Mul(d, big.NewInt(steps))}
				dec := x.decimal()
				b, err := Parse(dec.at(1), f.size, nil)
				if err != nil || b < was || b > float+2 {
					t.Errorf("%s = %#x, %v, behind %#x", told("Parse", f.size, dec.at(1)), b, err, was)
				}
				was = b
			}
			if was != float+2 {
				t.Errorf("of %d: the last one is %#x, want %#x", f.size, was, float+2)
			}
		}
		for _, float := range f.named() {
			hold(float)
		}
		f.spread(100, hold)
	}
}
