package round

import (
	"math"
	"math/big"
	"slices"
	"testing"

	"numeral/api"
	"numeral/nat"
)

const maxWord = math.MaxUint64

var (
	sizes = []int{32, 64}
	signs = []bool{false, true}
	// noSizes are numbers that are no size.
	noSizes = []int{0, 1, 8, 16, 24, 31, 33, 53, 63, 65, 128, -1, -32, -64, 64 + 1<<32, math.MinInt, math.MaxInt, math.MinInt + 64}
	// outside are exponents that are out of bounds.
	outside = []int{api.MaxPoint + 1, -api.MaxPoint - 1, api.MaxPoint * 2, -api.MaxPoint * 2, math.MaxInt, math.MinInt, math.MaxInt - 1100, math.MinInt + 1100}
)

// format are the numbers that IEEE 754 says of a size: the bits of a mantissa, the exponents of the least and of the greatest float.
type format struct{ size, places, least, most int }

var formats = []format{{32, 24, -149, 104}, {64, 53, -1074, 971}}

func (f format) sign() uint64 { return 1 << (f.size - 1) }

// inf are the bits of the infinity.
func (f format) inf() uint64 {
	if f.size == 32 {
		return 0x7f800000
	}
	return 0x7ff0000000000000
}

// named are floats at the places of weight, without a sign, all of them finite.
func (f format) named() []uint64 {
	hidden := uint64(1) << (f.places - 1)
	one := f.inf() / 2 &^ (hidden - 1)
	list := []uint64{0, 1, 2, 3, 4, 5, hidden/2 - 1, hidden / 2, hidden/2 + 1, hidden - 2, hidden - 1, hidden, hidden + 1, hidden + 2, 2*hidden - 2, 2*hidden - 1, 2 * hidden, 2*hidden + 1, 3*hidden - 1, 3 * hidden}
	for places := range f.places + 3 {
		list = append(list, one+uint64(places)*hidden-1, one+uint64(places)*hidden, one+uint64(places)*hidden+1)
	}
	for back := range uint64(3) {
		list = append(list, f.inf()-1-back, f.inf()-hidden-1-back, f.inf()-hidden+back)
	}
	return list
}

// spread calls do with n floats all over a size, without a sign, all of them finite.
func (f format) spread(n uint64, do func(bits uint64)) {
	step := f.inf()/n | 1
	for i := range n {
		do((i*step ^ i*i) % f.inf())
	}
}

// value is the exact value of a finite float, by the machine's own numbers; that of the infinity is the power of two behind the greatest float.
func (f format) value(bits uint64) *big.Rat {
	if bits == f.inf() {
		return scaled(1, f.most+f.places)
	}
	if f.size == 32 {
		return new(big.Rat).SetFloat64(float64(math.Float32frombits(uint32(bits))))
	}
	return new(big.Rat).SetFloat64(math.Float64frombits(bits))
}

// rounded is what the chapter says of a number and a sign, by the library's great numbers.
func (f format) rounded(x *big.Rat, neg bool) (uint64, error) {
	var bits uint64
	if f.size == 32 {
		v, _ := x.Float32()
		bits = uint64(math.Float32bits(v))
	} else {
		v, _ := x.Float64()
		bits = math.Float64bits(v)
	}
	var err error
	if bits == f.inf() {
		err = api.ErrRange
	}
	return f.signed(bits, neg), err
}

func (f format) signed(bits uint64, neg bool) uint64 {
	if neg {
		return bits | f.sign()
	}
	return bits
}

func power(exp int) *big.Int { return new(big.Int).Lsh(big.NewInt(1), uint(exp)) }

// scaled is m * 2^exp.
func scaled(m uint64, exp int) *big.Rat { return shifted(new(big.Rat).SetInt(word(m)), exp) }

// shifted is x * 2^exp; exponents far out are brought near to both ends, which are still beyond all that a ratio of numbers makes up for.
func shifted(x *big.Rat, exp int) *big.Rat {
	exp = max(-20000, min(exp, 20000))
	if exp < 0 {
		return new(big.Rat).Mul(x, new(big.Rat).SetFrac(big.NewInt(1), power(-exp)))
	}
	return new(big.Rat).Mul(x, new(big.Rat).SetInt(power(exp)))
}

func word(m uint64) *big.Int { return new(big.Int).SetUint64(m) }

func great(a nat.Nat) *big.Int {
	x := new(big.Int)
	for _, w := range slices.Backward(a) {
		x.Lsh(x, 64).Or(x, word(w))
	}
	return x
}

func of(x *big.Int) nat.Nat {
	var a nat.Nat
	rest, low := new(big.Int).Set(x), word(maxWord)
	for rest.Sign() > 0 {
		a = append(a, new(big.Int).And(rest, low).Uint64())
		rest.Rsh(rest, 64)
	}
	return a
}

func ones(n int) nat.Nat { return slices.Repeat(nat.Nat{maxWord}, n) }

// topOne is the least number of n words.
func topOne(n int) nat.Nat {
	a := make(nat.Nat, n)
	a[n-1] = 1
	return a
}

// chance is a row of words that is always the same.
type chance uint64

func (c *chance) word() uint64 {
	*c = *c*6364136223846793005 + 1442695040888963407
	x := uint64(*c)
	return x ^ x>>29 ^ x<<31
}

// bits is a number of just so many bits.
func (c *chance) bits(n int) *big.Int {
	x := new(big.Int)
	for x.BitLen() < n {
		x.Lsh(x, 64).Or(x, word(c.word()|1<<63))
	}
	return x.Rsh(x, uint(x.BitLen()-n))
}

// wantRatio asks for a ratio, and that its numbers stay as they were.
func wantRatio(t *testing.T, size int, neg bool, n, d nat.Nat, exp int, want uint64, refused error) {
	t.Helper()
	nWas, dWas := slices.Clone(n), slices.Clone(d)
	if b, err := Ratio(size, neg, n, d, exp); b != want || err != refused {
		t.Errorf("Ratio(%d, %v, %s, %s, %d): %#x, %v, want %#x, %v", size, neg, told(n), told(d), exp, b, err, want, refused)
	}
	if !slices.Equal(n, nWas) || !slices.Equal(d, dWas) {
		t.Errorf("Ratio(%d, %v, %s, %s, %d) changed its numbers", size, neg, told(nWas), told(dWas), exp)
	}
}

// wantExact asks for what the chapter says of n by d times 2^exp, of both sizes and with both signs.
func wantExact(t *testing.T, n, d *big.Int, exp int) {
	t.Helper()
	x := shifted(new(big.Rat).SetFrac(n, d), exp)
	for _, f := range formats {
		for _, neg := range signs {
			want, refused := f.rounded(x, neg)
			wantRatio(t, f.size, neg, of(n), of(d), exp, want, refused)
		}
	}
}

// wantRat asks for what the chapter says of x.
func wantRat(t *testing.T, x *big.Rat, exp int) {
	t.Helper()
	wantExact(t, x.Num(), x.Denom(), exp)
}

func wantWhole(t *testing.T, size int, neg bool, m uint64, exp int, more bool, want uint64, refused error) {
	t.Helper()
	if b, err := Whole(size, neg, m, exp, more); b != want || err != refused {
		t.Errorf("Whole(%d, %v, %#x, %d, %v): %#x, %v, want %#x, %v", size, neg, m, exp, more, b, err, want, refused)
	}
}

// wantWord asks for what the chapter says of m * 2^exp, without more and with it, of both sizes and with both signs.
func wantWord(t *testing.T, m uint64, exp int) {
	t.Helper()
	// A unit 200 places behind m's last is far behind the last that a float or its half may have.
	hair := new(big.Int).Lsh(word(m), 200)
	if m != 0 {
		hair.Add(hair, big.NewInt(1))
	}
	plain, above := scaled(m, exp), shifted(new(big.Rat).SetFrac(hair, power(200)), exp)
	for _, f := range formats {
		for _, neg := range signs {
			want, refused := f.rounded(plain, neg)
			wantWhole(t, f.size, neg, m, exp, false, want, refused)
			want, refused = f.rounded(above, neg)
			wantWhole(t, f.size, neg, m, exp, true, want, refused)
		}
	}
}

// told is a number on a short line.
func told(a nat.Nat) string {
	x := great(a)
	if x.BitLen() > 256 {
		return "a number of " + new(big.Int).SetInt64(int64(x.BitLen())).String() + " bits"
	}
	return x.String()
}
