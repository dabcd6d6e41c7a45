package hasty

import (
	"math/big"
	"testing"

	"numeral/api"
)

// fraction is 2^exp * 10^-place.
func fraction(exp, place int) (n, d *big.Int) {
	n = new(big.Int).Lsh(tens[max(0, -place)], uint(max(0, exp)))
	d = new(big.Int).Lsh(tens[max(0, place)], uint(max(0, -exp)))
	return n, d
}

// nearly calls do with numbers up to a bound that, times n / d, are nearer to whole numbers than all lesser ones: the denominators of its continued fraction, and the last ones between these.
func nearly(n, d *big.Int, bound uint64, do func(q uint64)) {
	n, d = new(big.Int).Set(n), new(big.Int).Set(d)
	q, ahead := big.NewInt(0), big.NewInt(1)
	for d.Sign() != 0 {
		part, rest := new(big.Int).QuoRem(n, d, new(big.Int))
		n, d = d, rest
		next := new(big.Int).Mul(part, q)
		next.Add(next, ahead)
		for _, q := range []*big.Int{new(big.Int).Sub(next, q), next} {
			if q.Sign() > 0 && q.IsUint64() && q.Uint64() <= bound {
				do(q.Uint64())
			}
		}
		if !next.IsUint64() || next.Uint64() > bound {
			return
		}
		q, ahead = next, q
	}
}

// hard calls do with numbers of so many bits whose product with 2^exp * 10^-place is near to a whole number: multiples of the nearest ones, the least and the greatest.
func hard(bits, exp, place int, do func(mant uint64)) {
	n, d := fraction(exp, place)
	least := uint64(1) << (bits - 1)
	bound := least - 1 + least
	nearly(n, d, bound, func(q uint64) {
		do(bound / q * q)
		if times := (least-1)/q + 1; times < bound/q {
			do(times * q)
		}
	})
}

// Floats as near to a half of a unit as any: with each length that a float may have, and to every count of digits.
func TestHA1HardFloats(t *testing.T) {
	for _, f := range formats {
		asked, notSure := 0, 0
		limit := int(f.inf()>>(f.bits-1)) - 2 + f.least + f.bits
		for top := f.least; top < limit; top += f.bits / 8 {
			bits := min(f.bits, top-f.least+1)
			exp := top - bits + 1
			for n := 1; n <= most; n++ {
				s, _ := scaleOf(api.Float{Class: api.ClassFine, Mant: 1, Exp: top}, n)
				hard(bits, exp+1, s.place, func(mant uint64) {
					float := mant
					if bits == f.bits {
						float += uint64(exp-f.least) * f.hidden()
					}
					if float < 1 || float >= f.inf() {
						return
					}
					value := f.value(float)
					want, _ := nearest(value, tens[max(0, length(value)-n)])
					asked++
					if !wantOrNotSure(t, float, f.size, n, decimal(want)) {
						notSure++
					}
				})
			}
		}
		if asked < 10000 || notSure > asked/100 {
			t.Errorf("size %d: not sure of %d of %d", f.size, notSure, asked)
		}
	}
}

// The nearest of all to half way between two numbers, but for those that lie there: they are told, or it is not sure.
func TestHA1HardestFloats(t *testing.T) {
	f := formats[1]
	for _, c := range []struct {
		mant uint64
		exp  int
	}{
		{8887055249355788, 664}, {8385515147034757, 722}, {7490160530217119, -716}, {7233432835334966, -604}, {6684975782493958, 264}, {6197507759663696, -241}, {7746884699579620, -238},
	} {
		for exp := c.exp - 3; exp <= c.exp+3; exp++ {
			f.hold(t, c.mant-f.hidden()+uint64(exp-f.least+1)*f.hidden())
		}
	}
}

// Words of more bits than floats have come nearer to whole numbers of halves, so near that products cannot tell: there it is not sure, and says nothing; else it is right.
func TestHA1HardWords(t *testing.T) {
	sure, notSure, whole := 0, 0, 0
	for top := -1074; top < 1024; top += 3 {
		for _, n := range []int{1, 8, 17, 18} {
			s, _ := scaleOf(api.Float{Class: api.ClassFine, Mant: 1, Exp: top}, n)
			up, down := fraction(top-63+1, s.place)
			hard(64, top-63+1, s.place, func(word uint64) {
				product := new(big.Int).SetUint64(word)
				count, rest := product.QuoRem(product.Mul(product, up), down, new(big.Int))
				want := halves{whole: count.Uint64(), more: rest.Sign() != 0}
				h, ok := s.count(word)
				d, sureOfDigits := s.rounded(word, n)
				switch {
				case ok && h != want || !ok && h != (halves{}):
					t.Errorf("%d times 2^%d to the place %d: %v, %v, want %v", word, top-63, s.place, h, ok, want)
				case sureOfDigits != ok || ok == (d == api.Dec{}):
					t.Errorf("%d times 2^%d to the place %d and %d digits: %s, %v, of %v, %v", word, top-63, s.place, n, told(d), sureOfDigits, h, ok)
				case !ok:
					notSure++
				case !h.more:
					whole++
				default:
					sure++
				}
			})
		}
	}
	if sure < 10000 || notSure < 10 || whole < 100 {
		t.Errorf("sure of %d, not sure of %d, whole %d", sure, notSure, whole)
	}
}
