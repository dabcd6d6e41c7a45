package round

import (
	"math/big"
	"testing"

	"numeral/api"
	"numeral/nat"
)

func (f format) everyKind(n uint64, do func(bits uint64)) {
	for _, bits := range f.named() {
		do(bits)
	}
	f.spread(n, do)
}

// Ratio of Value is the float itself.
func TestRN4ThereAndBack(t *testing.T) {
	for _, f := range formats {
		f.everyKind(50000, func(bits uint64) {
			for _, neg := range signs {
				sign, n, d, err := Value(f.signed(bits, neg), f.size)
				if err != nil {
					t.Fatal(err)
				}
				wantRatio(t, f.size, sign, n, d, 0, f.signed(bits, neg), nil)
			}
		})
	}
}

// Half is rounded to the float above or below it whose last bit is 0.
func TestRN4HalvesToEven(t *testing.T) {
	for _, f := range formats {
		f.everyKind(30000, func(bits uint64) {
			n, d, _ := Half(bits, f.size)
			want, refused := bits+bits%2, error(nil)
			if want == f.inf() {
				refused = api.ErrRange
			}
			wantRatio(t, f.size, false, n, d, 0, want, refused)
		})
	}
}

// How a number is written does not matter: n and d times the same, two to the exp in n or in d.
func TestRN4HowItIsWritten(t *testing.T) {
	c := chance(3)
	for _, f := range formats {
		for range 400 {
			n, d := c.bits(1+int(c.word()%3000)), c.bits(1+int(c.word()%3000))
			exp := d.BitLen() - n.BitLen() + int(c.word()%2400) - 1200
			want, refused := Ratio(f.size, false, of(n), of(d), exp)
			for _, length := range []int{2, 64, 1000, 5192} {
				times := c.bits(length)
				wantRatio(t, f.size, false, of(new(big.Int).Mul(n, times)), of(new(big.Int).Mul(d, times)), exp, want, refused)
			}
			for _, move := range []uint{1, 63, 64, 777, 5192} {
				wantRatio(t, f.size, false, of(new(big.Int).Lsh(n, move)), of(d), exp-int(move), want, refused)
				wantRatio(t, f.size, false, of(n), of(new(big.Int).Lsh(d, move)), exp+int(move), want, refused)
			}
		}
	}
}

// As numbers rise, what they are rounded to does not fall; Whole is Ratio by 1, and with more it is not below that.
func TestRN4Rising(t *testing.T) {
	c := chance(4)
	for _, f := range formats {
		for _, exp := range []int{-30, 0, f.most - 40, f.most - 12, f.least - 62, f.least - 40, f.least - 10} {
			was := uint64(0)
			m := uint64(1)
			for m < 1<<63 {
				b, err := Whole(f.size, false, m, exp, false)
				wantRatio(t, f.size, false, nat.Of(m), nat.Nat{1}, exp, b, err)
				more, _ := Whole(f.size, false, m, exp, true)
				next, _ := Whole(f.size, false, m+1, exp, false)
				if b < was || more < b || next < more {
					t.Errorf("%#x * 2^%d of %d: %#x behind %#x, with more %#x, and of the next %#x", m, exp, f.size, b, was, more, next)
				}
				was = b
				m += 1 + c.word()%(m/8+2)
			}
		}
		for range 300 {
			n, d := c.bits(2000), c.bits(2000+int(c.word()%70))
			low, _ := Ratio(f.size, false, of(n), of(d), 0)
			high, _ := Ratio(f.size, false, of(new(big.Int).Add(n, big.NewInt(1))), of(d), 0)
			deep, _ := Ratio(f.size, false, of(n), of(new(big.Int).Add(d, big.NewInt(1))), 0)
			if high < low || deep > low {
				t.Errorf("%s by %s: %#x, %#x, %#x", n, d, deep, low, high)
			}
		}
	}
}

// No float lies nearer to the number than the answer does, and half way its last bit is 0.
func TestRN4Nearest(t *testing.T) {
	c := chance(8)
	for _, f := range formats {
		f.everyKind(3000, func(bits uint64) {
			low, high := f.value(bits), f.value(bits+1)
			// A part of the way from one float to the next, with every eighth among them.
			part := new(big.Rat).SetFrac(word(c.word()>>61), big.NewInt(8))
			if bits%3 == 0 {
				part = new(big.Rat).SetFrac(c.bits(900), power(900))
			}
			x := new(big.Rat).Sub(high, low)
			x.Mul(x, part).Add(x, low)
			b, _ := Ratio(f.size, false, of(x.Num()), of(x.Denom()), 0)
			if b != bits && b != bits+1 {
				t.Errorf("a number between %#x and the next float of %d: %#x", bits, f.size, b)
				return
			}
			there, other := f.apart(x, b), f.apart(x, 2*bits+1-b)
			if n := there.Cmp(other); n > 0 || n == 0 && b%2 == 1 {
				t.Errorf("a number between %#x and the next float of %d: %#x is not the nearest", bits, f.size, b)
			}
		})
	}
}

// apart is how far a float is from x.
func (f format) apart(x *big.Rat, bits uint64) *big.Rat {
	way := new(big.Rat).Sub(x, f.value(bits))
	return way.Abs(way)
}
