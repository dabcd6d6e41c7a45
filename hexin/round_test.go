package hexin

import (
	"math"
	"testing"

	"numeral/api"
	"numeral/round"
)

func TestHI1Named(t *testing.T) {
	for _, c := range []struct {
		neg     bool
		m       uint64
		exp     int
		size    int
		want    uint64
		refused error
	}{
		{false, 3, -1, 64, 0x3ff8000000000000, nil},
		{true, 3, -1, 64, 0xbff8000000000000, nil},
		{true, 1, 2000, 32, 0xff800000, api.ErrRange},
		{true, 1, -2000, 32, 0x80000000, nil},
		{true, 1, -2000, 64, 0x8000000000000000, nil},
		{false, 1, -2000, 64, 0, nil},
		{false, 1, 0, 64, 0x3ff0000000000000, nil},
		{false, 24, -7, 64, 0x3fc8000000000000, nil},
		{false, maxWord, 0, 64, 0x43f0000000000000, nil},
		{false, maxWord, -64, 64, 0x3ff0000000000000, nil},
		// Just as many bits as a float keeps, and one more: half way to the even one, down and up.
		{false, 1<<53 - 1, 0, 64, 0x433fffffffffffff, nil},
		{false, 1 << 53, 0, 64, 0x4340000000000000, nil},
		{false, 1<<53 + 1, 0, 64, 0x4340000000000000, nil},
		{false, 1<<53 + 2, 0, 64, 0x4340000000000001, nil},
		{true, 1<<53 + 3, 0, 64, 0xc340000000000002, nil},
		{false, 1<<54 - 1, 0, 64, 0x4350000000000000, nil},
		{false, 1<<54 + 3, 0, 64, 0x4350000000000001, nil},
		{false, 1<<63 + 1<<10, 0, 64, 0x43e0000000000000, nil},
		{false, 1<<63 + 1<<10 + 1, 0, 64, 0x43e0000000000001, nil},
		{false, 1<<63 + 3<<10, 0, 64, 0x43e0000000000002, nil},
		{false, 1<<63 + 3<<10 - 1, 0, 64, 0x43e0000000000001, nil},
		// The least float, half of it, a quarter of it.
		{true, 1, -1074, 64, 0x8000000000000001, nil},
		{true, 1, -1075, 64, 0x8000000000000000, nil},
		{true, 1, -1076, 64, 0x8000000000000000, nil},
		{false, 3, -1075, 64, 2, nil},
		{false, 3, -1076, 64, 1, nil},
		{false, 5, -1076, 64, 1, nil},
		{false, 1 << 63, -1138, 64, 0, nil},
		{false, 1<<63 + 1, -1138, 64, 1, nil},
		{false, 1<<63 - 1, -1138, 64, 0, nil},
		{false, maxWord, -1138, 64, 1, nil},
		{false, maxWord, -1139, 64, 0, nil},
		// The least one that is not denormal, and what is rounded up to it.
		{false, 1, -1022, 64, 0x10000000000000, nil},
		{false, 1<<52 - 1, -1074, 64, 0xfffffffffffff, nil},
		{false, 1<<53 - 1, -1075, 64, 0x10000000000000, nil},
		{false, 1<<53 - 3, -1075, 64, 0xffffffffffffe, nil},
		// The greatest, half way beyond it, and further.
		{false, 1<<53 - 1, 971, 64, 0x7fefffffffffffff, nil},
		{false, 1<<54 - 2, 970, 64, 0x7fefffffffffffff, nil},
		{false, 1<<54 - 1, 970, 64, 0x7ff0000000000000, api.ErrRange},
		{true, 1<<54 - 1, 970, 64, 0xfff0000000000000, api.ErrRange},
		{false, 1<<55 - 3, 969, 64, 0x7fefffffffffffff, nil},
		{true, 1<<55 - 1, 969, 64, 0xfff0000000000000, api.ErrRange},
		{false, maxWord, 960, 64, 0x7ff0000000000000, api.ErrRange},
		{false, maxWord - 1<<10, 960, 64, 0x7fefffffffffffff, nil},
		{false, maxWord - 1<<10 + 1, 960, 64, 0x7ff0000000000000, api.ErrRange},
		{false, 1, 1023, 64, 0x7fe0000000000000, nil},
		{false, 1, 1024, 64, 0x7ff0000000000000, api.ErrRange},
		{false, 1 << 53, 971, 64, 0x7ff0000000000000, api.ErrRange},
		// The same of size 32.
		{false, 3, -1, 32, 0x3fc00000, nil},
		{false, 1<<24 - 1, 0, 32, 0x4b7fffff, nil},
		{false, 1<<24 + 1, 0, 32, 0x4b800000, nil},
		{true, 1<<24 + 3, 0, 32, 0xcb800002, nil},
		{false, 1<<25 - 1, 0, 32, 0x4c000000, nil},
		{false, maxWord, 0, 32, 0x5f800000, nil},
		{true, 1, -149, 32, 0x80000001, nil},
		{true, 1, -150, 32, 0x80000000, nil},
		{true, 1, -151, 32, 0x80000000, nil},
		{false, 3, -150, 32, 2, nil},
		{false, 3, -151, 32, 1, nil},
		{false, 1 << 63, -213, 32, 0, nil},
		{false, 1<<63 + 1, -213, 32, 1, nil},
		{false, maxWord, -214, 32, 0, nil},
		{false, 1, -126, 32, 0x800000, nil},
		{false, 1<<24 - 1, -150, 32, 0x800000, nil},
		{false, 1<<24 - 3, -150, 32, 0x7ffffe, nil},
		{false, 1<<24 - 1, 104, 32, 0x7f7fffff, nil},
		{false, 1<<25 - 1, 103, 32, 0x7f800000, api.ErrRange},
		{true, 1<<26 - 3, 102, 32, 0xff7fffff, nil},
		{true, 1<<26 - 2, 102, 32, 0xff800000, api.ErrRange},
		{false, 1, 127, 32, 0x7f000000, nil},
		{false, 1, 128, 32, 0x7f800000, api.ErrRange},
	} {
		wantRound(t, c.neg, c.m, c.exp, false, c.size, c.want, c.refused)
	}
}

func TestHI1Noughts(t *testing.T) {
	for _, f := range formats {
		for _, neg := range signs {
			for exp := -1300; exp <= 1300; exp++ {
				wantRound(t, neg, 0, exp, false, f.size, f.signed(0, neg), nil)
			}
			for _, exp := range append(farUp, farDown...) {
				wantRound(t, neg, 0, exp, false, f.size, f.signed(0, neg), nil)
			}
		}
	}
}

// An exponent far out decides alone, with more, too: any is taken.
func TestHI1AnyExponent(t *testing.T) {
	for _, f := range formats {
		for _, neg := range signs {
			for _, more := range signs {
				for _, m := range words() {
					for _, exp := range farUp {
						if m != 0 {
							wantRound(t, neg, m, exp, more, f.size, f.signed(f.inf(), neg), api.ErrRange)
						}
					}
					for _, exp := range farDown {
						wantRound(t, neg, m, exp, more, f.size, f.signed(0, neg), nil)
					}
				}
			}
		}
	}
}

// Every word of weight at every edge, without more and with it, against exact whole numbers.
func TestHI1Edges(t *testing.T) {
	for _, f := range formats {
		var s seen
		for _, m := range words() {
			for _, exp := range f.exps(m) {
				f.wantRight(t, m, exp, &s)
			}
		}
		if s.one < 1000 || s.none < 1000 || s.beyond < 1000 {
			t.Errorf("of size %d with more %d have one nearest float, %d of them beyond, and %d have none", f.size, s.one, s.beyond, s.none)
		}
	}
}

func TestHI1Many(t *testing.T) {
	c := chance(2)
	for _, f := range formats {
		var s seen
		for range 30000 {
			f.wantRight(t, c.upTo(64), c.within(f.least-70, f.most+60), &s)
			f.wantRight(t, c.upTo(f.places+2), c.within(f.least-30, f.least+30), &s)
			f.wantRight(t, c.word()>>(64-f.places-2), c.within(f.most-4, f.most+2), &s)
		}
		if s.one < 1000 || s.none < 1000 || s.beyond < 1000 {
			t.Errorf("of size %d with more %d have one nearest float, %d of them beyond, and %d have none", f.size, s.one, s.beyond, s.none)
		}
	}
}

// Small words, all of them, where floats are few.
func TestHI1SmallWords(t *testing.T) {
	for _, f := range formats {
		var s seen
		for m := range uint64(70) {
			for exp := f.least - 9; exp <= f.least+2; exp++ {
				f.wantRight(t, m, exp, &s)
			}
			for exp := f.most + f.places - 9; exp <= f.most+f.places+2; exp++ {
				f.wantRight(t, m, exp, &s)
			}
		}
	}
}

// Within layer 12's bounds its Whole is the same; with more too, where there is an answer of a word above 0.
func TestHI1AsLayer12(t *testing.T) {
	c := chance(3)
	for _, f := range formats {
		for range 30000 {
			m, exp, neg := c.upTo(64), c.within(-1300, 1100), c.word()%2 == 1
			want, refused := round.Whole(f.size, neg, m, exp, false)
			wantRound(t, neg, m, exp, false, f.size, want, refused)
			if b, err := Round(neg, m, exp, true, f.size); err != api.ErrArg && m != 0 {
				want, refused = round.Whole(f.size, neg, m, exp, true)
				if b != want || err != refused {
					t.Errorf("Round(%v, %#x, %d, true, %d) = %#x, %v, want %#x, %v", neg, m, exp, f.size, b, err, want, refused)
				}
			}
		}
	}
}

// A size that is none is refused ahead of all else, with nothing beside it.
func TestHI1Sizes(t *testing.T) {
	for _, size := range noSizes {
		for _, m := range []uint64{0, 1, 3, 1<<24 - 1, 1 << 53, maxWord} {
			for _, exp := range []int{0, 1, -1, 971, -1074, 2000, -2000, math.MaxInt, math.MinInt} {
				for _, neg := range signs {
					for _, more := range signs {
						wantRound(t, neg, m, exp, more, size, 0, api.ErrBitSize)
					}
				}
			}
		}
	}
}
