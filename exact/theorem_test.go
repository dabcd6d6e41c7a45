package exact

import (
	"math/big"
	"testing"

	"numeral/api"
	"numeral/bits"
)

// All numbers here are whole: they are told in units of 10^-tenPlaces * 2^-twoPlaces, and every float, and every number that Of is asked for here, is a whole number of these.
const (
	tenPlaces = 60
	twoPlaces = 1074
)

// scaled is mant times ten to the exp, in units.
func scaled(mant uint64, exp int) *big.Int {
	x := new(big.Int).Mul(word(mant), power(10, tenPlaces+exp))
	return x.Lsh(x, twoPlaces)
}

// value is a finite float, in units, by layer 11's parts; of the infinity it is the power of two behind the greatest float.
func (f format) value(float uint64) *big.Int {
	p, err := bits.Unpack(float, f.size)
	if err != nil || p.Neg || p.Class == api.ClassNaN {
		// Far below all numbers: nothing is nearer to it.
		return new(big.Int).Neg(power(2, 4000))
	}
	if p.Class == api.ClassInf {
		p, _ = bits.Unpack(float-1, f.size)
		p.Mant++
	}
	x := new(big.Int).Mul(word(p.Mant), power(10, tenPlaces))
	return x.Lsh(x, uint(twoPlaces+p.Exp))
}

// apart is how far a float is from x.
func (f format) apart(x *big.Int, float uint64) *big.Int {
	way := new(big.Int).Sub(x, f.value(float))
	return way.Abs(way)
}

// wantNearest asks that neither the next float down nor the next one up is nearer than a sure answer, nor as near, if its last bit is 1. It says whether one was as near.
func (f format) wantNearest(t *testing.T, mant uint64, exp int) bool {
	t.Helper()
	float, sure, err := Of(mant, exp, f.size)
	if err != nil || !sure {
		if err != nil || f.must(mant, exp) {
			t.Errorf("Of(%d, %d, %d) = %#x, %v, %v", mant, exp, f.size, float, sure, err)
		}
		return false
	}
	x, tie := scaled(mant, exp), false
	there := f.apart(x, float)
	for _, step := range []func(uint64, int) (uint64, error){bits.Prev, bits.Next} {
		other, err := step(float, f.size)
		if err != nil {
			// There is none beyond a nought, none beyond the infinity.
			continue
		}
		n := there.Cmp(f.apart(x, other))
		if n > 0 || n == 0 && float%2 == 1 {
			t.Errorf("Of(%d, %d, %d) = %#x, but %#x is as near or nearer", mant, exp, f.size, float, other)
		}
		tie = tie || n == 0
	}
	return tie
}

func TestEX3Edges(t *testing.T) {
	for _, f := range formats {
		for _, mant := range namedWords() {
			for exp := -f.tens - 6; exp <= f.tens+6; exp++ {
				f.wantNearest(t, mant, exp)
			}
		}
	}
}

func TestEX3Many(t *testing.T) {
	c := chance(4)
	for _, f := range formats {
		for exp := -f.tens - 2; exp <= f.tens+2; exp++ {
			for n := range uint64(200) {
				f.wantNearest(t, n, exp)
				f.wantNearest(t, f.most()-n, exp)
				f.wantNearest(t, f.most()+n, exp)
				f.wantNearest(t, c.upTo(f.places), exp)
				f.wantNearest(t, c.word()>>(64-f.places), exp)
				f.wantNearest(t, c.upTo(64), exp)
			}
		}
	}
}

// inverse is the word whose product with 5^n ends in 1, within 64 bits.
func inverse(n int) uint64 {
	const fifth = 0xcccccccccccccccd
	x := uint64(1)
	for range n {
		x *= fifth
	}
	return x
}

// hardProducts calls do with words within the bound whose product with 5^n is off above what lies half way between two floats (the twos of ten make no difference).
func (f format) hardProducts(c *chance, n int, off uint64, do func(mant uint64)) {
	fives := power(5, n)
	// So many bits more stand behind a float's own and that of the half.
	for behind := 0; behind+1 < f.places; behind++ {
		least := new(big.Int).Div(power(2, f.places+behind), fives)
		if !least.IsUint64() || least.Uint64() >= f.most() {
			continue
		}
		mask := uint64(2)<<behind - 1
		low := (1<<behind + off) * inverse(n) & mask
		for range 6 {
			mant := (least.Uint64()+c.word()%(least.Uint64()+1))&^mask | low
			if length := new(big.Int).Mul(word(mant), fives).BitLen(); mant <= f.most() && length == f.places+1+behind {
				do(mant)
			}
		}
	}
}

// hardQuotients calls do with words within the bound whose quotient by 5^n, times a power of two, is the 5^n-th part of off above an odd number one bit longer than a float's: half way between two floats, nearly. off is odd, for else that number could not be.
func (f format) hardQuotients(c *chance, n int, off uint64, do func(mant uint64)) {
	fives := power(5, n)
	for down := 1; down <= f.places; down++ {
		mask := uint64(1)<<down - 1
		low := -off * inverse(n) & mask
		for range 6 {
			half := f.most() | c.word()>>(64-f.places)&^mask | low
			x := new(big.Int).Mul(word(half), fives)
			x.Add(x, big.NewInt(int64(off)))
			mant := new(big.Int).Rsh(x, uint(down))
			if mant.Cmp(word(f.most())) <= 0 {
				do(mant.Uint64())
			}
		}
	}
}

// What lies half way, and what lies as near to it as numbers of this kind can, is told rightly.
func TestEX3Hard(t *testing.T) {
	c := chance(5)
	for _, f := range formats {
		ties, products, quotients := 0, 0, 0
		for n := 1; n <= f.tens; n++ {
			// Below half way and above it; what is below 0 wraps round, as the words do that are made of it.
			for off := -9; off <= 9; off++ {
				f.hardProducts(&c, n, uint64(off), func(mant uint64) {
					products++
					if f.wantNearest(t, mant, n) {
						ties++
					}
				})
			}
			for off := -9; off <= 9; off += 2 {
				f.hardQuotients(&c, n, uint64(off), func(mant uint64) {
					quotients++
					if f.wantNearest(t, mant, -n) {
						t.Errorf("%d by 10^%d is half way, though it has too few bits", mant, n)
					}
				})
			}
		}
		if ties < 100 || products < 1000 || quotients < 1000 {
			t.Errorf("of size %d %d products, %d of them half way, and %d quotients", f.size, products, ties, quotients)
		}
	}
}
