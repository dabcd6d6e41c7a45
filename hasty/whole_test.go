package hasty

import (
	"math/big"
	"math/bits"
	"testing"

	"numeral/api"
)

// wantSure asks it of a whole number, if it is a float, with both signs, and for every count of digits.
func (f format) wantSure(t *testing.T, whole uint64) {
	t.Helper()
	float, is := f.of(whole)
	if whole == 0 || whole >= wholes || !is {
		return
	}
	x := new(big.Int).SetUint64(whole)
	for n := 1; n <= most; n++ {
		want, _ := nearest(x, tens[max(0, length(x)-n)])
		told := decimal(want.Mul(want, tens[places]))
		for _, float := range f.signed(float) {
			wantDigits(t, float, f.size, n, told, true, nil)
		}
	}
}

func TestHA1SureOfWholesNamed(t *testing.T) {
	for _, c := range []struct {
		whole  uint64
		n      int
		digits string
		point  int
	}{
		{1, 1, "1", 1}, {1, 18, "1", 1}, {9, 1, "9", 1}, {10, 1, "1", 2}, {99, 1, "1", 3}, {99, 2, "99", 2}, {100, 1, "1", 3}, {100, 2, "1", 3}, {100, 3, "1", 3}, {100, 18, "1", 3},
		// Half way, to the even one; those next to them are not.
		{15, 1, "2", 2}, {25, 1, "2", 2}, {35, 1, "4", 2}, {24, 1, "2", 2}, {26, 1, "3", 2}, {125, 2, "12", 3}, {135, 2, "14", 3}, {205, 2, "2", 3}, {2500, 1, "2", 4}, {3500, 1, "4", 4}, {2501, 1, "3", 4}, {2499, 1, "2", 4}, {250000, 1, "2", 6}, {350000, 1, "4", 6},
		// Rounded up over a power of ten.
		{95, 1, "1", 3}, {94, 1, "9", 2}, {999, 2, "1", 4}, {999, 1, "1", 4}, {995, 2, "1", 4}, {994, 2, "99", 3}, {999999, 5, "1", 7}, {999999, 6, "999999", 6}, {9999500, 4, "1", 8},
		{1<<24 - 1, 1, "2", 8}, {1<<24 - 1, 7, "1677722", 8}, {1<<24 - 1, 8, "16777215", 8}, {1<<24 - 1, 18, "16777215", 8},
	} {
		for _, f := range formats {
			float, is := f.of(c.whole)
			if !is {
				t.Fatalf("%d is no float of size %d", c.whole, f.size)
			}
			for _, float := range f.signed(float) {
				wantDigits(t, float, f.size, c.n, api.Dec{Digits: c.digits, Point: c.point}, true, nil)
			}
		}
	}
	for n, digits := range []string{1: "9", 2: "9", 3: "901", 4: "9007", 5: "90072", 6: "90072", 15: "900719925474099", 16: "9007199254740991", 17: "9007199254740991", 18: "9007199254740991"} {
		if digits != "" {
			wantDigits(t, 0x433fffffffffffff, 64, n, api.Dec{Digits: digits, Point: 16}, true, nil)
		}
	}
}

func TestHA1SureOfFewWholes(t *testing.T) {
	for _, f := range formats {
		for whole := uint64(1); whole <= 3000; whole++ {
			f.wantSure(t, whole)
		}
	}
}

// Powers of ten and of two, and of both times few; and those next to them.
func TestHA1SureOfPowers(t *testing.T) {
	for _, f := range formats {
		for up := range 53 {
			for times := uint64(1); times < 16; times++ {
				f.about(t, times<<up)
			}
		}
		for _, ten := range tens[:16] {
			for times := uint64(1); times < 100; times++ {
				f.about(t, times*ten.Uint64())
			}
		}
		f.about(t, wholes)
	}
}

// about asks it of a whole number, and of those next to it.
func (f format) about(t *testing.T, whole uint64) {
	t.Helper()
	for near := range uint64(5) {
		f.wantSure(t, whole+near-2)
	}
}

// Numbers half way between two of n digits, even and odd, and those next to them.
func TestHA1SureOfWholeHalves(t *testing.T) {
	c := chance(5)
	for _, f := range formats {
		for noughts := range 15 {
			unit := tens[noughts].Uint64()
			for range 120 {
				count := c.within(1, 16-noughts)
				odd := 2*(c.word()%tens[count].Uint64()) + 1
				f.about(t, odd*5*unit)
			}
			for ahead := uint64(1); ahead < 40; ahead++ {
				f.about(t, (10*ahead+5)*unit)
			}
		}
	}
}

// Nines, and nines with a 5 or noughts behind: what goes over a power of ten, and what just doesn't.
func TestHA1SureOfNines(t *testing.T) {
	for _, f := range formats {
		for nines := 1; nines < 16; nines++ {
			for noughts := range 16 - nines {
				power, unit := tens[nines].Uint64(), tens[noughts].Uint64()
				f.about(t, (power-1)*unit)
				f.about(t, (10*power-5)*unit)
				f.about(t, (10*power-6)*unit)
			}
		}
	}
}

// Whole numbers of every length, and those of size 32 that end in bits that are 0.
func TestHA1SureOfWholesOfEveryLength(t *testing.T) {
	c := chance(6)
	for length := 1; length <= 53; length++ {
		top := uint64(1) << (length - 1)
		for range 60 {
			whole := top | c.word()%top
			formats[1].wantSure(t, whole)
			drop := max(0, bits.Len64(whole)-24)
			formats[0].wantSure(t, whole>>drop<<drop)
		}
	}
}
