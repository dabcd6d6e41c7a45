package product

import (
	"math/big"
	"testing"

	"numeral/api"
	"numeral/bits"
)

// oddOnes calls do with odd numbers from least to most, both ends among them.
func (c *chance) oddOnes(least, most uint64, do func(uint64)) {
	if least|1 > most {
		return
	}
	do(least | 1)
	do((most - 1) | 1)
	for range 60 {
		if odd := least + c.word()%(most-least+1) | 1; odd <= most {
			do(odd)
		}
	}
}

// around asks for a word and for those next to it.
func (f format) around(t *testing.T, mant *big.Int, e int) {
	t.Helper()
	for near := int64(-2); near <= 2; near++ {
		if m := new(big.Int).Add(mant, big.NewInt(near)); m.IsUint64() {
			f.wantRight(t, m.Uint64(), e)
		}
	}
}

// Half way between two floats are whole numbers that are a power of two times an odd one of one bit too many: the answer is the float whose last bit is 0, the lower or the upper one; with more it is the upper one, or not sure.
func TestPD1HalfWayWholes(t *testing.T) {
	c := chance(5)
	for _, f := range formats {
		low, high := 0, 0
		first := uint64(1) << f.places
		for e := 0; e <= mostSure; e++ {
			fives := power(5, e)
			if fives.BitLen() > f.places+1 {
				continue
			}
			least := (first-1)/fives.Uint64() + 1
			c.oddOnes(least, (2*first-1)/fives.Uint64(), func(part uint64) {
				odd := part * fives.Uint64()
				for up := 0; word(part).BitLen()+up <= 64; up++ {
					even := odd / 2
					if even%2 == 1 {
						even++
						high++
					} else {
						low++
					}
					want, err := bits.Pack(api.Float{Class: api.ClassFine, Mant: even, Exp: e + up + 1}, f.size)
					if err != nil {
						t.Fatal(err)
					}
					wantRound(t, part<<up, e, false, f.size, want, true)
					f.around(t, word(part<<up), e)
				}
			})
		}
		if low < 1000 || high < 1000 {
			t.Errorf("of size %d %d half way down, %d up", f.size, low, high)
		}
	}
}

// Quotients half way between two floats are those of words that the fives of ten divide. No product with a power that is cut off can tell: so Round is not sure, or it is right.
func TestPD1HalfWayQuotients(t *testing.T) {
	c := chance(6)
	for _, f := range formats {
		count := 0
		first := uint64(1) << f.places
		for n := 1; n <= 27; n++ {
			fives := power(5, n)
			c.oddOnes(first, 2*first-1, func(odd uint64) {
				mant := new(big.Int).Mul(word(odd), fives)
				for ; mant.IsUint64(); mant.Lsh(mant, 1) {
					f.around(t, mant, -n)
					count++
				}
			})
		}
		if count < 1000 {
			t.Errorf("of size %d %d quotients", f.size, count)
		}
	}
}

// nearly calls do with fractions p / q that are nearer to n / d than all others with as small a q: those of its continued fraction, and the last ones between these.
func nearly(n, d *big.Int, do func(p, q *big.Int)) {
	n, d = new(big.Int).Set(n), new(big.Int).Set(d)
	p, q := big.NewInt(1), big.NewInt(0)
	p1, q1 := big.NewInt(0), big.NewInt(1)
	for d.Sign() != 0 && q.BitLen() <= 64 {
		part, rest := new(big.Int).QuoRem(n, d, new(big.Int))
		n, d = d, rest
		p2, q2 := new(big.Int).Mul(part, p), new(big.Int).Mul(part, q)
		p2.Add(p2, p1)
		q2.Add(q2, q1)
		do(new(big.Int).Sub(p2, p), new(big.Int).Sub(q2, q))
		do(p2, q2)
		p, q, p1, q1 = p2, q2, p, q
	}
}

// hard calls do with words that, times ten to the e, come as near to what lies half way between two floats with that unit as words can.
func (f format) hard(e, unit int, do func(mant uint64)) {
	n, d := fraction(big.NewInt(1), e)
	// In halves of the unit, what is half way is odd.
	n.Lsh(n, uint(max(0, 1-unit)))
	d.Lsh(d, uint(max(0, unit-1)))
	least, most := uint64(1)<<f.places, uint64(2)<<f.places
	if unit == f.least {
		least = 1
	}
	nearly(n, d, func(p, q *big.Int) {
		if p.Sign() <= 0 || p.Bit(0) == 0 || !p.IsUint64() || p.Uint64() >= most {
			return
		}
		// Where p is too small, an odd multiple of both serves; it is a small one, for what lies between grows with it.
		times := (least-1)/p.Uint64() + 1 | 1
		mant := new(big.Int).Mul(q, word(times))
		if times < 64 && times*p.Uint64() < most && mant.IsUint64() {
			do(mant.Uint64())
		}
	})
}

// What lies as near to half way as words bring it is told rightly, or is not sure; from 0 to 27 it is sure.
func TestPD1Hard(t *testing.T) {
	for _, f := range formats {
		count, sure, denormal := 0, 0, 0
		for e := map[int]int{32: -68, 64: -345}[f.size]; e <= map[int]int{32: 40, 64: 310}[f.size]; e++ {
			// Words times ten to the e have a first bit from that of ten to the e on, 64 places up.
			n, d := fraction(big.NewInt(1), e)
			first := n.BitLen() - d.BitLen() - f.places
			greatest := int(f.inf()>>(f.places-1)) - 2 + f.least
			for unit := max(first, f.least); unit <= min(first+65, greatest); unit++ {
				f.hard(e, unit, func(mant uint64) {
					if unit == f.least {
						denormal++
					}
					count++
					if ok, _ := f.wantRight(t, mant, e); ok {
						sure++
					}
					// With more, this one ends there.
					f.wantRight(t, mant-1, e)
				})
			}
		}
		if count < 2000 || sure < count*9/10 || denormal < 20 {
			t.Errorf("of size %d %d numbers, %d sure, %d denormal", f.size, count, sure, denormal)
		}
	}
}
