package base

import (
	"math"
	"math/big"
	"numeral/api"
	"strconv"
	"testing"
)

func wantLen(t *testing.T, x uint64, base, want int) {
	t.Helper()
	if n, err := Len(x, base); n != want || err != nil {
		t.Errorf("Len(%d, %d): %d, %v, want %d", x, base, n, err, want)
	}
}

// powers are all of a base's powers below 2^64, from the first one on.
func powers(base int) []uint64 {
	var all []uint64
	b := big.NewInt(int64(base))
	for p := big.NewInt(int64(base)); p.IsUint64(); p.Mul(p, b) {
		all = append(all, p.Uint64())
	}
	return all
}

func TestBS4Len(t *testing.T) {
	for _, c := range []struct {
		x          uint64
		base, want int
	}{
		{0, 2, 1}, {0, 10, 1}, {0, 36, 1}, {1, 2, 1}, {1, 10, 1}, {1, 36, 1}, {2, 2, 2}, {2, 3, 1}, {9, 10, 1}, {10, 10, 2}, {35, 36, 1}, {36, 36, 2}, {255, 2, 8}, {256, 2, 9}, {255, 16, 2}, {256, 16, 3}, {999, 10, 3}, {1000, 10, 4},
		{math.MaxUint64, 2, 64}, {math.MaxUint64, 3, 41}, {math.MaxUint64, 8, 22}, {math.MaxUint64, 10, 20}, {math.MaxUint64, 16, 16}, {math.MaxUint64, 36, 13},
		{1 << 63, 2, 64}, {1<<63 - 1, 2, 63}, {1 << 60, 16, 16}, {1<<60 - 1, 16, 15}, {10000000000000000000, 10, 20}, {9999999999999999999, 10, 19},
	} {
		wantLen(t, c.x, c.base, c.want)
	}
}

func TestBS4LenOfEveryPower(t *testing.T) {
	eachBase(func(base int) {
		wantLen(t, 0, base, 1)
		wantLen(t, 1, base, 1)
		for i, p := range powers(base) {
			wantLen(t, p, base, i+2)
			wantLen(t, p-1, base, i+1)
		}
		wantLen(t, math.MaxUint64, base, len(strconv.FormatUint(math.MaxUint64, base)))
		for x := range uint64(3000) {
			wantLen(t, x, base, len(strconv.FormatUint(x, base)))
		}
		for i := range 64 {
			x := uint64(1) << i
			for _, x := range []uint64{x, x - 1, x + 1, x * 3} {
				wantLen(t, x, base, len(strconv.FormatUint(x, base)))
			}
		}
	})
}

func TestBS4Most(t *testing.T) {
	for _, c := range []struct {
		base, n int
		power   uint64
	}{
		{2, 63, 9223372036854775808}, {3, 40, 12157665459056928801}, {4, 31, 4611686018427387904}, {5, 27, 7450580596923828125}, {7, 22, 3909821048582988049}, {8, 21, 9223372036854775808}, {10, 19, 10000000000000000000}, {15, 16, 6568408355712890625}, {16, 15, 1152921504606846976}, {32, 12, 1152921504606846976}, {36, 12, 4738381338321616896},
	} {
		if n, power, err := Most(c.base); n != c.n || power != c.power || err != nil {
			t.Errorf("Most(%d): %d, %d, %v, want %d, %d", c.base, n, power, err, c.n, c.power)
		}
	}
	eachBase(func(base int) {
		all := powers(base)
		if n, power, err := Most(base); n != len(all) || power != all[len(all)-1] || err != nil {
			t.Errorf("Most(%d): %d, %d, %v, want %d, %d", base, n, power, err, len(all), all[len(all)-1])
		}
	})
}

func TestBS4OfNoBase(t *testing.T) {
	for _, base := range noBases {
		for _, x := range []uint64{0, 1, 255, math.MaxUint64} {
			if n, err := Len(x, base); n != 0 || err != api.ErrBase {
				t.Errorf("Len(%d, %d): %d, %v", x, base, n, err)
			}
		}
		if n, power, err := Most(base); n != 0 || power != 0 || err != api.ErrBase {
			t.Errorf("Most(%d): %d, %d, %v", base, n, power, err)
		}
	}
}

// toThe is a base to the n.
func toThe(base, n int) *big.Int {
	return new(big.Int).Exp(big.NewInt(int64(base)), big.NewInt(int64(n)), nil)
}

func TestBS5LenBetweenPowers(t *testing.T) {
	eachBase(func(base int) {
		row := append(powers(base), 0, 1, 2, 35, 36, math.MaxUint32, math.MaxUint64, math.MaxUint64-1, 0x123456789abcdef)
		for _, p := range row {
			for _, x := range []uint64{p - 1, p, p + 1} {
				n, err := Len(x, base)
				whole := new(big.Int).SetUint64(x)
				if err != nil || toThe(base, n).Cmp(whole) <= 0 || x > 0 && toThe(base, n-1).Cmp(whole) > 0 {
					t.Errorf("Len(%d, %d): %d, %v", x, base, n, err)
				}
			}
		}
	})
}

func TestBS5MostTimesBase(t *testing.T) {
	word := new(big.Int).Lsh(big.NewInt(1), 64)
	eachBase(func(base int) {
		n, power, err := Most(base)
		whole := new(big.Int).SetUint64(power)
		if err != nil || toThe(base, n).Cmp(whole) != 0 || whole.Mul(whole, big.NewInt(int64(base))).Cmp(word) < 0 {
			t.Errorf("Most(%d): %d, %d, %v", base, n, power, err)
		}
	})
}
