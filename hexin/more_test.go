package hexin

import (
	"testing"

	"numeral/api"
)

func TestHI1More(t *testing.T) {
	for _, c := range []struct {
		neg     bool
		m       uint64
		exp     int
		size    int
		want    uint64
		refused error
	}{
		// A word that a float has room for ends where the next float begins.
		{false, 1, 0, 64, 0, api.ErrArg},
		{true, 3, -1, 64, 0, api.ErrArg},
		{false, 1<<53 - 1, 0, 64, 0, api.ErrArg},
		// One bit more: below half way, and from there on.
		{false, 1 << 53, 0, 64, 0x4340000000000000, nil},
		{false, 1<<53 + 1, 0, 64, 0x4340000000000001, nil},
		{true, 1<<53 + 2, 0, 64, 0xc340000000000001, nil},
		{true, 1<<53 + 3, 0, 64, 0xc340000000000002, nil},
		{false, 1<<54 - 1, 0, 64, 0x4350000000000000, nil},
		// At half way, and just below it.
		{false, 1<<54 + 1, 0, 64, 0x4350000000000000, nil},
		{false, 1<<54 + 2, 0, 64, 0x4350000000000001, nil},
		{false, 1<<54 + 5, 0, 64, 0x4350000000000001, nil},
		{false, 1<<54 + 6, 0, 64, 0x4350000000000002, nil},
		{false, 1<<63 + 1<<10 - 1, 0, 64, 0x43e0000000000000, nil},
		{false, 1<<63 + 1<<10, 0, 64, 0x43e0000000000001, nil},
		{false, maxWord - 1<<10, 0, 64, 0x43efffffffffffff, nil},
		{false, maxWord, 0, 64, 0x43f0000000000000, nil},
		// About the least float.
		{false, 1, -1074, 64, 0, api.ErrArg},
		{true, 1, -1075, 64, 0x8000000000000001, nil},
		{true, 1, -1076, 64, 0x8000000000000000, nil},
		{false, 2, -1076, 64, 1, nil},
		{false, 1<<63 - 1, -1138, 64, 0, nil},
		{false, 1 << 63, -1138, 64, 1, nil},
		{false, maxWord, -1139, 64, 0, nil},
		{false, 1<<52 - 1, -1074, 64, 0, api.ErrArg},
		{false, 1<<53 - 1, -1075, 64, 0x10000000000000, nil},
		{false, 1<<53 - 2, -1075, 64, 0xfffffffffffff, nil},
		// With the word 0 it may be 0, or much more.
		{false, 0, -1075, 64, 0, nil},
		{true, 0, -1075, 64, 0x8000000000000000, nil},
		{true, 0, -1074, 64, 0, api.ErrArg},
		{false, 0, 0, 64, 0, api.ErrArg},
		{false, 0, 1024, 64, 0, api.ErrArg},
		// About the greatest, and beyond: there all of it is infinite.
		{false, 1<<53 - 1, 971, 64, 0, api.ErrArg},
		{false, 1<<54 - 2, 970, 64, 0x7fefffffffffffff, nil},
		{true, 1<<54 - 1, 970, 64, 0xfff0000000000000, api.ErrRange},
		{false, 1<<55 - 3, 969, 64, 0x7fefffffffffffff, nil},
		{false, 1<<55 - 2, 969, 64, 0x7ff0000000000000, api.ErrRange},
		{false, 1, 1023, 64, 0, api.ErrArg},
		{true, 1, 1024, 64, 0xfff0000000000000, api.ErrRange},
		{false, 3, 1022, 64, 0, api.ErrArg},
		{false, 3, 1023, 64, 0x7ff0000000000000, api.ErrRange},
		{false, 1 << 52, 972, 64, 0x7ff0000000000000, api.ErrRange},
		{false, 1, 2000, 64, 0x7ff0000000000000, api.ErrRange},
		// The same of size 32.
		{false, 1<<24 - 1, 0, 32, 0, api.ErrArg},
		{true, 1 << 24, 0, 32, 0xcb800000, nil},
		{true, 1<<24 + 1, 0, 32, 0xcb800001, nil},
		{false, 1<<25 + 1, 0, 32, 0x4c000000, nil},
		{false, 1<<25 + 2, 0, 32, 0x4c000001, nil},
		{false, maxWord, 0, 32, 0x5f800000, nil},
		{false, 1, -149, 32, 0, api.ErrArg},
		{false, 1, -150, 32, 1, nil},
		{false, 1, -151, 32, 0, nil},
		{true, 0, -150, 32, 0x80000000, nil},
		{true, 0, -149, 32, 0, api.ErrArg},
		{false, 0, 128, 32, 0, api.ErrArg},
		{false, 1<<24 - 1, 104, 32, 0, api.ErrArg},
		{true, 1<<25 - 2, 103, 32, 0xff7fffff, nil},
		{true, 1<<25 - 1, 103, 32, 0xff800000, api.ErrRange},
		{false, 1, 127, 32, 0, api.ErrArg},
		{true, 1, 128, 32, 0xff800000, api.ErrRange},
	} {
		wantRound(t, c.neg, c.m, c.exp, true, c.size, c.want, c.refused)
	}
}

// With the word 0 and more the number lies between 0 and 2^exp: there is one nearest float up to half of the least one, and never again, however far up.
func TestHI1MoreThanNought(t *testing.T) {
	for _, f := range formats {
		for _, neg := range signs {
			hold := func(exp int) {
				if exp < f.least {
					wantRound(t, neg, 0, exp, true, f.size, f.signed(0, neg), nil)
				} else {
					wantRound(t, neg, 0, exp, true, f.size, 0, api.ErrArg)
				}
			}
			for exp := -1300; exp <= 1300; exp++ {
				hold(exp)
			}
			for _, exp := range append(farUp, farDown...) {
				hold(exp)
			}
		}
	}
}

// Where a float keeps fewer bits than the word has, one nearest float is sure, whatever the word's last bits are; where it keeps all of them, none is.
func TestHI1MoreByLength(t *testing.T) {
	c := chance(4)
	for _, f := range formats {
		for length := 1; length <= 64; length++ {
			for range 200 {
				m := c.word()>>(64-length) | 1<<(length-1)
				exp := c.within(f.least, f.most-64)
				_, err := Round(false, m, exp, true, f.size)
				if long := length > f.places; long != (err == nil) || !long && err != api.ErrArg {
					t.Errorf("Round(false, %#x, %d, true, %d): %v", m, exp, f.size, err)
				}
			}
		}
	}
}
