package quick

import (
	"math/big"
	"testing"

	"numeral/api"
	"numeral/bits"
)

// units are fourths of a float's last bit with that exponent, in units of ten to the place.
func units(fourths uint64, exp, place int) *big.Rat {
	n, d := new(big.Int).SetUint64(fourths), big.NewInt(1)
	n.Lsh(n, uint(max(0, exp-2)))
	d.Lsh(d, uint(max(0, 2-exp)))
	ten := big.NewInt(10)
	n.Mul(n, new(big.Int).Exp(ten, big.NewInt(int64(max(0, -place))), nil))
	d.Mul(d, new(big.Int).Exp(ten, big.NewInt(int64(max(0, place))), nil))
	return new(big.Rat).SetFrac(n, d)
}

// What scaleOf says of the last bit holds for all floats, and products have room.
func TestScaleOf(t *testing.T) {
	least, most := big.NewRat(100, 1), big.NewRat(1000, 1)
	for exp := -1074; exp <= 971; exp++ {
		s := scaleOf(exp)
		if bit := units(4, exp, s.place); bit.Cmp(least) < 0 || bit.Cmp(most) >= 0 {
			t.Errorf("2^%d is %s units", exp, bit.FloatString(3))
		}
		if s.drop < 64 || s.drop > restBits {
			t.Errorf("2^%d: %d bits are dropped", exp, s.drop)
		}
	}
}

// wantCount asks that a count is right, or not sure.
func wantCount(t *testing.T, s scale, fourths uint64, exp int) bool {
	t.Helper()
	got, sure := s.count(fourths)
	want := count{}
	if sure {
		exact := units(fourths, exp, s.place)
		whole, rest := new(big.Int).QuoRem(exact.Num(), exact.Denom(), new(big.Int))
		want = count{whole: whole.Uint64(), more: rest.Sign() != 0}
	}
	if got != want {
		t.Errorf("%d fourths of 2^%d: %v, %v, want %v", fourths, exp, got, sure, want)
	}
	return sure
}

// coarse is a scale whose power has 64 bits alone: it is less often sure.
func coarse(s scale) scale {
	cut := s.power.M.Lo != 0
	s.power.M = api.U128{Lo: s.power.M.Hi}
	s.power.Exp += 64
	s.power.Exact = s.power.Exact && !cut
	s.drop -= 64
	return s
}

// Numbers of units, whole ones among them, are told rightly by powers of 128 bits and of 64; by the former, nearly always.
func TestCount(t *testing.T) {
	c := chance(4)
	all, unsure, unsureOfCoarse := 0, 0, 0
	for _, f := range formats {
		for exp := f.least; exp <= f.greatest; exp++ {
			s := scaleOf(exp)
			for fives := uint64(1); fives < f.hidden(); fives *= 5 {
				fourths := max(2, c.word()>>(62-f.bits)/fives*fives)
				all++
				if !wantCount(t, s, fourths, exp) {
					unsure++
				}
				if !wantCount(t, coarse(s), fourths, exp) {
					unsureOfCoarse++
				}
			}
		}
	}
	if unsure > all/1000 || unsureOfCoarse < all/100 || unsureOfCoarse > all/2 {
		t.Errorf("of %d not sure of %d, with 64 bits of %d", all, unsure, unsureOfCoarse)
	}
}

// With powers of fewer bits it is not sure of more floats, tells nothing of these, and is never wrong.
func TestCoarse(t *testing.T) {
	c := chance(5)
	unsure := 0
	for _, f := range formats {
		hold := func(float uint64) {
			parts, err := bits.Unpack(float, f.size)
			if err != nil {
				t.Fatal(err)
			}
			want := api.Dec{}
			d, sure := coarse(scaleOf(parts.Exp)).shortest(parts, gapBelow(float, f.size, parts.Exp))
			if sure {
				want = f.library(t, float)
			} else {
				unsure++
			}
			if d != want {
				t.Errorf("%#x of %d: %s, %v, want %s", float, f.size, told(d), sure, told(want))
			}
		}
		f.everyKind(100000, hold)
		for range 100000 {
			hold(1 + c.word()%f.most())
		}
	}
	if unsure < 1000 {
		t.Errorf("it is not sure of %d alone", unsure)
	}
}

// It is sure of nearly all floats, or the long road would be taken needlessly.
func TestQU1SureOfNearlyAll(t *testing.T) {
	for _, f := range formats {
		sure, unsure := 0, 0
		f.everyKind(50000, func(float uint64) {
			if f.wantOrNotSure(t, float, f.library(t, float)) {
				sure++
			} else {
				unsure++
			}
		})
		if sure < 1000*unsure {
			t.Errorf("size %d: sure %d, not sure %d", f.size, sure, unsure)
		}
	}
}

// The fourths of these come nearest to a whole number of units from below: a product with a power that is cut off a little more would not reach it, and one that is rounded up would pass it.
func TestQU1Hard(t *testing.T) {
	f := formats[1]
	for _, c := range []struct {
		fourths uint64
		exp     int
	}{
		{0x581266e207a940, -240}, {0x44ce606095fc3a, -233}, {0x6e17009a899390, -237}, {0x6e17009a899390, -236}, {0x5dff853d00566a, 533}, {0x5dff853d00566a, 534}, {0x6ea876fd851542, 764}, {0x772a538e640214, 722}, {0x772a538e640214, 723}, {0x772a538e640214, 724}, {0x7c4eade8660be3, 332}, {0x6b7d47e815780a, 946}, {0x5de096035af301, -499}, {0x7ecb7519166a95, -299},
	} {
		wantCount(t, scaleOf(c.exp), c.fourths, c.exp)
		wantCount(t, coarse(scaleOf(c.exp)), c.fourths, c.exp)
		for _, mant := range []uint64{c.fourths/4 - 1, c.fourths / 4, c.fourths/4 + 1} {
			float, err := bits.Pack(api.Float{Class: api.ClassFine, Mant: mant, Exp: c.exp}, f.size)
			if err != nil {
				t.Fatal(err)
			}
			f.hold(t, float)
		}
	}
}
