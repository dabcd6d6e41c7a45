package powers

import (
	"math"
	"math/big"
	"testing"

	"numeral/api"
)

// farOff are whole numbers beyond every bound of the chapter; some of them would be within one, if they were cut to fewer bits.
var farOff = []int{
	math.MinInt, math.MinInt + 1, math.MinInt + 5, math.MaxInt, math.MaxInt - 1, math.MaxInt - 5,
	1 << 16, 1 << 32, 1<<32 + 5, -1 << 32, 5 - 1<<32, 1 << 31, -1 << 31, 1 << 40, -1 << 40, 1<<62 + 5, 5 - 1<<62, 5000, -5000,
}

// exactPower is b^n, by the library's great numbers.
func exactPower(b, n int) *big.Rat {
	p := new(big.Int).Exp(big.NewInt(int64(b)), big.NewInt(int64(max(n, -n))), nil)
	if n < 0 {
		return new(big.Rat).SetFrac(big.NewInt(1), p)
	}
	return new(big.Rat).SetInt(p)
}

// mantissa is a number of 128 bits.
func mantissa(a api.U128) *big.Int {
	m := new(big.Int).SetUint64(a.Hi)
	return m.Lsh(m, 64).Add(m, new(big.Int).SetUint64(a.Lo))
}

// scaled is m * 2^exp.
func scaled(m *big.Int, exp int) *big.Rat {
	return new(big.Rat).Mul(new(big.Rat).SetInt(m), exactPower(2, exp))
}

// of is Of of an e within its bounds.
func of(t *testing.T, e int) Power {
	t.Helper()
	p, err := Of(e)
	if err != nil {
		t.Fatalf("Of(%d): %v", e, err)
	}
	return p
}

// everyExponent calls do with every e that Of takes.
func everyExponent(do func(e int)) {
	for e := -api.MaxPower; e <= api.MaxPower; e++ {
		do(e)
	}
}

func wantOf(t *testing.T, e int, want Power, refused error) {
	t.Helper()
	if p, err := Of(e); p != want || err != refused {
		t.Errorf("Of(%d) = %v, %v, want %v, %v", e, p, err, want, refused)
	}
}

func wantLength(t *testing.T, name string, call func(int) (int, error), n, want int, refused error) {
	t.Helper()
	if d, err := call(n); d != want || err != refused {
		t.Errorf("%s(%d) = %d, %v, want %d, %v", name, n, d, err, want, refused)
	}
}

func wantWord(t *testing.T, name string, call func(int) (uint64, error), n int, want uint64, refused error) {
	t.Helper()
	if p, err := call(n); p != want || err != refused {
		t.Errorf("%s(%d) = %d, %v, want %d, %v", name, n, p, err, want, refused)
	}
}

func TestPT1Named(t *testing.T) {
	for _, c := range []struct {
		e      int
		hi, lo uint64
		exp    int
		exact  bool
	}{
		{0, 1 << 63, 0, -127, true},
		{1, 0xa000000000000000, 0, -124, true},
		{2, 0xc800000000000000, 0, -121, true},
		{27, 0xcecb8f27f4200f3a, 0, -38, true},
		{28, 0x813f3978f8940984, 0x4000000000000000, -34, true},
		{55, 0xd0cf4b50cfe20765, 0xfff4b4e3f741cf6d, 55, true},
		{56, 0x82818f1281ed449f, 0xbff8f10e7a8921a4, 59, false},
		{-1, 0xcccccccccccccccc, 0xcccccccccccccccc, -131, false},
		{-2, 0xa3d70a3d70a3d70a, 0x3d70a3d70a3d70a3, -134, false},
		{308, 0x8e679c2f5e44ff8f, 0x570f09eaa7ea7648, 896, false},
		{-342, 0xeef453d6923bd65a, 0x113faa2906a13b3f, -1264, false},
	} {
		wantOf(t, c.e, Power{M: api.U128{Hi: c.hi, Lo: c.lo}, Exp: c.exp, Exact: c.exact}, nil)
	}
}

// M has all of its 128 bits, and neither is M * 2^Exp above 10^e, nor is there room for one unit more.
func TestPT1EveryPower(t *testing.T) {
	one := big.NewInt(1)
	everyExponent(func(e int) {
		p, want := of(t, e), exactPower(10, e)
		m := mantissa(p.M)
		if m.BitLen() != 128 {
			t.Errorf("Of(%d): M has %d bits", e, m.BitLen())
		}
		low := scaled(m, p.Exp).Cmp(want)
		high := scaled(m.Add(m, one), p.Exp).Cmp(want)
		if low > 0 || high <= 0 {
			t.Errorf("Of(%d) = %v: held against the power %d, and %d with one unit more", e, p, low, high)
		}
		if p.Exact != (low == 0) {
			t.Errorf("Of(%d) = %v: exact %v", e, p, p.Exact)
		}
	})
}

// Every e out of bounds is refused, and nothing is told beside the error.
func TestPT1Errors(t *testing.T) {
	for _, e := range append([]int{api.MaxPower + 1, api.MaxPower + 2, -api.MaxPower - 1, -api.MaxPower - 2, 1100, -1100}, farOff...) {
		wantOf(t, e, Power{}, api.ErrArg)
	}
	for _, e := range []int{api.MaxPower, -api.MaxPower} {
		if p := of(t, e); p.M.Hi>>63 != 1 || p.Exact {
			t.Errorf("Of(%d) = %v", e, p)
		}
	}
}

// A call hangs on its exponent alone, whatever was asked ahead of it.
func TestPT1Again(t *testing.T) {
	first := map[int]Power{}
	everyExponent(func(e int) { first[e] = of(t, e) })
	everyExponent(func(e int) { wantOf(t, -e, first[-e], nil) })
}

func TestPT2Named(t *testing.T) {
	for n, want := range map[int]int{
		0: 1, 1: 1, 2: 1, 3: 1, 4: 2, 6: 2, 7: 3, 9: 3, 10: 4, 13: 4, 14: 5, 63: 19, 64: 20,
		// Powers of two just beside one of ten.
		93: 28, 196: 60, 485: 146, 970: 292, 1100: 332,
		-1: 0, -2: 0, -3: 0, -4: -1, -6: -1, -7: -2, -9: -2, -10: -3, -13: -3, -14: -4,
		-93: -27, -196: -59, -485: -145, -970: -291, -1100: -331,
	} {
		wantLength(t, "Digits", Digits, n, want, nil)
	}
	for n, want := range map[int]int{
		0: 1, 1: 4, 2: 7, 3: 10, 4: 14, 5: 17, 19: 64, 20: 67,
		// Powers of ten just beside one of two.
		28: 94, 59: 196, 146: 486, 643: 2136, 1100: 3655,
		-1: -3, -2: -6, -3: -9, -4: -13, -28: -93, -59: -195, -146: -485, -643: -2135, -1100: -3654,
	} {
		wantLength(t, "Bits", Bits, n, want, nil)
	}
}

// wantBetween checks base^(d-1) <= x < base^d.
func wantBetween(t *testing.T, name string, n, base, d int, x *big.Rat) {
	t.Helper()
	if exactPower(base, d-1).Cmp(x) > 0 || x.Cmp(exactPower(base, d)) >= 0 {
		t.Errorf("%s(%d) = %d", name, n, d)
	}
}

func TestPT2EveryLength(t *testing.T) {
	for n := -1100; n <= 1100; n++ {
		d, err := Digits(n)
		if err != nil {
			t.Fatalf("Digits(%d): %v", n, err)
		}
		wantBetween(t, "Digits", n, 10, d, exactPower(2, n))
		b, err := Bits(n)
		if err != nil {
			t.Fatalf("Bits(%d): %v", n, err)
		}
		wantBetween(t, "Bits", n, 2, b, exactPower(10, n))
	}
}

func TestPT2Errors(t *testing.T) {
	for _, n := range append([]int{1101, 1102, -1101, -1102, 2000, -2000}, farOff...) {
		wantLength(t, "Digits", Digits, n, 0, api.ErrArg)
		wantLength(t, "Bits", Bits, n, 0, api.ErrArg)
	}
}

func TestPT3EveryWord(t *testing.T) {
	for n := range 20 {
		wantWord(t, "Ten", Ten, n, exactPower(10, n).Num().Uint64(), nil)
	}
	for n := range 28 {
		wantWord(t, "Five", Five, n, exactPower(5, n).Num().Uint64(), nil)
	}
	wantWord(t, "Ten", Ten, 0, 1, nil)
	wantWord(t, "Ten", Ten, 19, 10000000000000000000, nil)
	wantWord(t, "Five", Five, 0, 1, nil)
	wantWord(t, "Five", Five, 27, 7450580596923828125, nil)
}

func TestPT3Errors(t *testing.T) {
	for _, n := range append([]int{-1, -2, -19, -27, 28, 29, 64, 400, -400}, farOff...) {
		wantWord(t, "Ten", Ten, n, 0, api.ErrArg)
		wantWord(t, "Five", Five, n, 0, api.ErrArg)
	}
	for n := 20; n <= 27; n++ {
		wantWord(t, "Ten", Ten, n, 0, api.ErrArg)
	}
}

func TestPT4WhereExact(t *testing.T) {
	everyExponent(func(e int) {
		if p := of(t, e); p.Exact != (0 <= e && e <= 55) {
			t.Errorf("Of(%d): exact %v", e, p.Exact)
		}
	})
}

// Ten times what was cut off is less than two units in the next power: so that is what comes of ten times this one, cut off, or one unit more; of an exact one it is that itself.
func TestPT4TimesTen(t *testing.T) {
	for e := -api.MaxPower; e < api.MaxPower; e++ {
		p, next := of(t, e), of(t, e+1)
		tens := mantissa(p.M)
		tens.Mul(tens, big.NewInt(10))
		drop := next.Exp - p.Exp
		if drop != 3 && drop != 4 {
			t.Fatalf("Of(%d): Exp %d, and then %d", e, p.Exp, next.Exp)
		}
		apart := mantissa(next.M)
		apart.Sub(apart, tens.Rsh(tens, uint(drop)))
		if n := apart.Int64(); !apart.IsInt64() || n < 0 || n > 1 || p.Exact && n != 0 {
			t.Errorf("Of(%d) is %v units above ten times Of(%d)", e+1, apart, e)
		}
	}
}
