package round

import (
	"math/big"
	"testing"

	"numeral/api"
	"numeral/nat"
)

func TestRN1Ratio(t *testing.T) {
	for _, c := range []struct {
		size    int
		n, d    uint64
		exp     int
		want    uint64
		refused error
	}{
		{64, 1, 3, 0, 0x3fd5555555555555, nil},
		{64, 2, 3, 0, 0x3fe5555555555555, nil},
		{64, 1, 10, 0, 0x3fb999999999999a, nil},
		{64, 1, 1, 0, 0x3ff0000000000000, nil},
		{64, 3, 2, 0, 0x3ff8000000000000, nil},
		{64, 6, 4, 0, 0x3ff8000000000000, nil},
		{64, 3, 1, -1, 0x3ff8000000000000, nil},
		{64, 1<<53 + 1, 1, 0, 0x4340000000000000, nil},
		{64, 1<<53 + 3, 1, 0, 0x4340000000000002, nil},
		{64, 1<<54 + 1, 1, 0, 0x4350000000000000, nil},
		{64, 1<<54 + 3, 1, 0, 0x4350000000000001, nil},
		{64, maxWord, 1, 0, 0x43f0000000000000, nil},
		{64, 1, maxWord, 0, 0x3bf0000000000000, nil},
		{64, 1, 1, -1074, 1, nil},
		{64, 1, 1, -1075, 0, nil},
		{64, 3, 1, -1075, 2, nil},
		{64, 3, 1, -1076, 1, nil},
		{64, 1, 1, 1023, 0x7fe0000000000000, nil},
		{64, 1, 1, 1024, 0x7ff0000000000000, api.ErrRange},
		{64, 1<<53 - 1, 1, 971, 0x7fefffffffffffff, nil},
		{64, 1<<54 - 1, 1, 970, 0x7ff0000000000000, api.ErrRange},
		{64, 1<<55 - 3, 1, 969, 0x7fefffffffffffff, nil},
		{32, 1, 3, 0, 0x3eaaaaab, nil},
		{32, 1, 10, 0, 0x3dcccccd, nil},
		{32, 1<<24 + 1, 1, 0, 0x4b800000, nil},
		{32, 1<<24 + 3, 1, 0, 0x4b800002, nil},
		{32, 1, 1, -149, 1, nil},
		{32, 1, 1, -150, 0, nil},
		{32, 3, 1, -150, 2, nil},
		{32, 1, 1, 127, 0x7f000000, nil},
		{32, 1, 1, 128, 0x7f800000, api.ErrRange},
		{32, 1<<24 - 1, 1, 104, 0x7f7fffff, nil},
		{32, 1<<25 - 1, 1, 103, 0x7f800000, api.ErrRange},
		{32, 1<<26 - 3, 1, 102, 0x7f7fffff, nil},
	} {
		wantRatio(t, c.size, false, nat.Of(c.n), nat.Of(c.d), c.exp, c.want, c.refused)
		wantRatio(t, c.size, true, nat.Of(c.n), nat.Of(c.d), c.exp, c.want|1<<(c.size-1), c.refused)
	}
}

// The errors come in this order: the size's, n's, d's, that of d 0, that of the exponent; beside each of them nothing is told.
func TestRN1Errors(t *testing.T) {
	type wrong struct {
		a   nat.Nat
		err error
	}
	none := []wrong{
		{ones(api.MaxWords + 1), api.ErrBig}, {make(nat.Nat, api.MaxWords+1), api.ErrBig}, {ones(3000), api.ErrBig},
		{nat.Nat{0}, api.ErrArg}, {nat.Nat{1, 0}, api.ErrArg}, {nat.Nat{0, 0}, api.ErrArg}, {make(nat.Nat, api.MaxWords), api.ErrArg}, {append(ones(api.MaxWords-1), 0), api.ErrArg},
	}
	fine := []nat.Nat{nil, {}, {1}, {maxWord}, ones(api.MaxWords), topOne(api.MaxWords)}
	exps := append([]int{0, -5, api.MaxPoint, -api.MaxPoint}, outside...)
	for _, neg := range signs {
		for _, exp := range exps {
			for _, n := range none {
				for _, d := range none {
					for _, size := range noSizes {
						wantRatio(t, size, neg, n.a, d.a, exp, 0, api.ErrBitSize)
					}
					for _, size := range sizes {
						wantRatio(t, size, neg, n.a, d.a, exp, 0, n.err)
					}
				}
				for _, other := range fine {
					for _, size := range sizes {
						wantRatio(t, size, neg, n.a, other, exp, 0, n.err)
						wantRatio(t, size, neg, other, n.a, exp, 0, n.err)
					}
				}
			}
			for _, n := range fine {
				for _, size := range sizes {
					wantRatio(t, size, neg, n, nil, exp, 0, api.ErrZero)
					wantRatio(t, size, neg, n, nat.Nat{}, exp, 0, api.ErrZero)
				}
				for _, size := range noSizes {
					wantRatio(t, size, neg, n, nil, exp, 0, api.ErrBitSize)
				}
			}
		}
		for _, exp := range outside {
			for _, n := range fine {
				for _, d := range fine[2:] {
					for _, size := range sizes {
						wantRatio(t, size, neg, n, d, exp, 0, api.ErrArg)
					}
				}
			}
		}
	}
}

func TestRN1Noughts(t *testing.T) {
	for _, f := range formats {
		for _, neg := range signs {
			for _, exp := range []int{0, 1, -1, 971, -1074, -149, 1 << 20, -1 << 20, api.MaxPoint, -api.MaxPoint, api.MaxPoint - 1, 1 - api.MaxPoint} {
				for _, d := range []nat.Nat{{1}, {3}, {maxWord}, {0, 1}, ones(20), topOne(api.MaxWords), ones(api.MaxWords)} {
					wantRatio(t, f.size, neg, nil, d, exp, f.signed(0, neg), nil)
					wantRatio(t, f.size, neg, nat.Nat{}, d, exp, f.signed(0, neg), nil)
				}
			}
		}
	}
}

// An exponent far beyond all floats decides alone, and numbers of very many words do not make up for it.
func TestRN1ExponentsFarOut(t *testing.T) {
	numbers := []nat.Nat{{1}, {3}, {maxWord}, {1, 1}, ones(17), topOne(64), topOne(api.MaxWords), ones(api.MaxWords)}
	for _, f := range formats {
		for _, neg := range signs {
			for _, exp := range []int{9400, 20000, 1 << 31, 1 << 32, api.MaxPoint - 1, api.MaxPoint} {
				for _, n := range numbers {
					for _, d := range numbers {
						wantRatio(t, f.size, neg, n, d, exp, f.signed(f.inf(), neg), api.ErrRange)
						wantRatio(t, f.size, neg, n, d, -exp, f.signed(0, neg), nil)
					}
				}
			}
		}
	}
}

// beside are numbers at x and by unit * 2^-places to each side, however far behind.
func beside(x, unit *big.Rat, places ...int) []*big.Rat {
	list := []*big.Rat{x}
	for _, p := range places {
		hair := shifted(unit, -p)
		list = append(list, new(big.Rat).Add(x, hair), new(big.Rat).Sub(x, hair))
	}
	return list
}

// Floats, what lies half way between two, and a hair's breadth to each side of these.
func TestRN1HalfWay(t *testing.T) {
	for _, f := range formats {
		for _, bits := range f.named() {
			low, high := f.value(bits), f.value(bits+1)
			unit := new(big.Rat).Sub(high, low)
			half := shifted(new(big.Rat).Add(low, high), -1)
			for _, x := range beside(half, unit, 2, 10, 11, 40, 64, 100, 1000, 5000) {
				wantRat(t, x, 0)
			}
			wantRat(t, low, 0)
			if low.Sign() > 0 {
				for _, x := range beside(low, unit, 3, 12, 64, 3000) {
					wantRat(t, x, 0)
				}
			}
			for _, neg := range signs {
				want := bits + bits%2
				var refused error
				if want == f.inf() {
					refused = api.ErrRange
				}
				wantRatio(t, f.size, neg, of(half.Num()), of(half.Denom()), 0, f.signed(want, neg), refused)
			}
		}
	}
}

// A hair that stands in the last of very many words still decides.
func TestRN1HairInTheLastWord(t *testing.T) {
	full := api.MaxWords * 64
	for _, f := range formats {
		// m is half way between two floats; n has as many bits as may be, n - 1 is half way too little by its last bit alone.
		for _, m := range []uint64{1<<f.places + 1, 1<<f.places + 3, 1<<(f.places+1) - 1} {
			n := new(big.Int).Lsh(word(m), uint(full-f.places-1))
			for _, x := range []*big.Int{n, new(big.Int).Add(n, big.NewInt(1)), new(big.Int).Sub(n, big.NewInt(1))} {
				for _, exp := range []int{-full, -full + 1, -full - 1, -full + f.most, -full + f.most + f.places, -full + f.least, -full + f.least + f.places} {
					wantExact(t, x, big.NewInt(1), exp)
				}
			}
		}
	}
}

// The least float's half is a nought, and a hair above it is the least float.
func TestRN1LeastHalf(t *testing.T) {
	for _, f := range formats {
		for _, neg := range signs {
			for _, places := range []int{1, 8, 64, 1000, 7000} {
				half := new(big.Int).Lsh(big.NewInt(1), uint(places))
				exp := f.least - 1 - places
				above, below := new(big.Int).Add(half, big.NewInt(1)), new(big.Int).Sub(half, big.NewInt(1))
				wantRatio(t, f.size, neg, of(half), nat.Nat{1}, exp, f.signed(0, neg), nil)
				wantRatio(t, f.size, neg, of(above), nat.Nat{1}, exp, f.signed(1, neg), nil)
				wantRatio(t, f.size, neg, of(below), nat.Nat{1}, exp, f.signed(0, neg), nil)
			}
			wantRatio(t, f.size, neg, nat.Nat{2}, nat.Nat{3}, f.least, f.signed(1, neg), nil)
			wantRatio(t, f.size, neg, nat.Nat{1}, nat.Nat{3}, f.least, f.signed(0, neg), nil)
		}
	}
}

// What is not below half way from the greatest float to the next power of two is infinite.
func TestRN1GreatestHalf(t *testing.T) {
	for _, f := range formats {
		for _, neg := range signs {
			half := word(1<<(f.places+1) - 1)
			for _, places := range []int{1, 8, 64, 1000, 7000} {
				n := new(big.Int).Lsh(half, uint(places))
				exp := f.most - 1 - places
				above, below := new(big.Int).Add(n, big.NewInt(1)), new(big.Int).Sub(n, big.NewInt(1))
				wantRatio(t, f.size, neg, of(n), nat.Nat{1}, exp, f.signed(f.inf(), neg), api.ErrRange)
				wantRatio(t, f.size, neg, of(above), nat.Nat{1}, exp, f.signed(f.inf(), neg), api.ErrRange)
				wantRatio(t, f.size, neg, of(below), nat.Nat{1}, exp, f.signed(f.inf()-1, neg), nil)
			}
		}
	}
}

// Numbers of all lengths, whose exponent makes up for them, on both sides of the fraction.
func TestRN1ManyWords(t *testing.T) {
	c := chance(12)
	full := api.MaxWords * 64
	lengths := []int{1, 2, 53, 63, 64, 65, 127, 128, 129, 1000, 4096, full - 129, full - 64, full - 63, full - 62, full - 61, full - 1, full}
	for _, n := range lengths {
		for _, d := range lengths {
			apart := d - n
			for _, exp := range []int{apart, apart - 3, apart + 127, apart + 128, apart - 126, apart - 140, apart - 149, apart - 150, apart + 1023, apart + 1024, apart - 1022, apart - 1050, apart - 1074, apart - 1075} {
				wantExact(t, c.bits(n), c.bits(d), exp)
			}
			wantExact(t, power(n-1), power(d-1), apart)
			wantExact(t, power(n-1), c.bits(d), apart)
			wantExact(t, c.bits(n), power(d-1), apart)
		}
	}
}

// A divisor that fills all words has no room above it: what is just half way then, and beside it, comes out of the last bits.
func TestRN1FullDivisors(t *testing.T) {
	c := chance(5)
	full := api.MaxWords * 64
	for _, f := range formats {
		for i := range 40 {
			// d has 70 noughts at its end, so that d times an odd m with places + 1 bits is within all words when these are cut.
			d := new(big.Int).Lsh(c.bits(full-70), 70)
			m := c.bits(f.places + 1)
			m.SetBit(m, 0, 1)
			product := new(big.Int).Mul(d, m)
			n := new(big.Int).Rsh(product, uint(f.places+1))
			for _, add := range []int64{0, 1, -1} {
				near := new(big.Int).Add(n, big.NewInt(add))
				if near.BitLen() > full {
					continue
				}
				for _, exp := range []int{0, 100, f.most, f.least + 10, i} {
					wantExact(t, near, d, exp)
				}
			}
		}
	}
}
