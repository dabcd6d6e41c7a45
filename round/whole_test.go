package round

import (
	"testing"

	"numeral/api"
)

func TestRN2Whole(t *testing.T) {
	for _, c := range []struct {
		size    int
		neg     bool
		m       uint64
		exp     int
		more    bool
		want    uint64
		refused error
	}{
		{64, false, 1<<53 + 1, 0, false, 0x4340000000000000, nil},
		{64, false, 1<<53 + 1, 0, true, 0x4340000000000001, nil},
		{64, false, 1 << 53, 0, true, 0x4340000000000000, nil},
		{64, false, 1<<54 + 1, 0, true, 0x4350000000000000, nil},
		{64, false, 1<<54 + 2, 0, true, 0x4350000000000001, nil},
		{64, true, 1, -1075, false, 1 << 63, nil},
		{64, true, 1, -1075, true, 1<<63 | 1, nil},
		{64, false, 1, -1076, true, 0, nil},
		{64, false, 1 << 63, -1138, false, 0, nil},
		{64, false, 1 << 63, -1138, true, 1, nil},
		{64, false, 1<<63 - 1, -1138, true, 0, nil},
		{64, false, maxWord, -1139, true, 0, nil},
		{64, false, 1<<54 - 1, 970, false, 0x7ff0000000000000, api.ErrRange},
		{64, false, 1<<54 - 1, 970, true, 0x7ff0000000000000, api.ErrRange},
		{64, false, 1<<55 - 3, 969, true, 0x7fefffffffffffff, nil},
		{64, false, 1<<53 - 1, 971, true, 0x7fefffffffffffff, nil},
		{64, true, 1, 1024, false, 0xfff0000000000000, api.ErrRange},
		{32, true, 1, 128, false, 0xff800000, api.ErrRange},
		{32, false, 1<<24 + 1, 0, false, 0x4b800000, nil},
		{32, false, 1<<24 + 1, 0, true, 0x4b800001, nil},
		{32, false, 1, -150, false, 0, nil},
		{32, false, 1, -150, true, 1, nil},
		{32, false, 1 << 63, -213, true, 1, nil},
		{32, false, 1 << 63, -213, false, 0, nil},
		{32, false, 1<<63 - 1, -213, true, 0, nil},
		{32, false, 1<<25 - 1, 103, false, 0x7f800000, api.ErrRange},
		{32, false, 1<<26 - 3, 102, true, 0x7f7fffff, nil},
	} {
		wantWhole(t, c.size, c.neg, c.m, c.exp, c.more, c.want, c.refused)
	}
}

func TestRN2Errors(t *testing.T) {
	for _, m := range []uint64{0, 1, 1<<53 + 1, maxWord} {
		for _, neg := range signs {
			for _, more := range signs {
				for _, size := range noSizes {
					for _, exp := range append([]int{0, 1, api.MaxPoint}, outside...) {
						wantWhole(t, size, neg, m, exp, more, 0, api.ErrBitSize)
					}
				}
				for _, size := range sizes {
					for _, exp := range outside {
						wantWhole(t, size, neg, m, exp, more, 0, api.ErrArg)
					}
				}
			}
		}
	}
}

// An exponent far beyond all floats decides alone, with more too; at both bounds nothing is refused.
func TestRN2ExponentsFarOut(t *testing.T) {
	for _, f := range formats {
		for _, neg := range signs {
			for _, more := range signs {
				for _, m := range []uint64{1, 3, 1 << 63, maxWord} {
					for _, exp := range []int{1024, 5000, 1 << 31, 1 << 32, api.MaxPoint - 1, api.MaxPoint} {
						wantWhole(t, f.size, neg, m, exp, more, f.signed(f.inf(), neg), api.ErrRange)
					}
					for _, exp := range []int{-1139, -5000, -1 << 31, -1 << 32, 1 - api.MaxPoint, -api.MaxPoint} {
						wantWhole(t, f.size, neg, m, exp, more, f.signed(0, neg), nil)
					}
				}
			}
		}
	}
}

// m 0 is a nought, with more too, wherever it stands.
func TestRN2Noughts(t *testing.T) {
	for _, f := range formats {
		for _, neg := range signs {
			for _, more := range signs {
				for _, exp := range []int{0, 1, -1, f.most, f.least, f.least - 1, f.least - 64, 2000, -2000, api.MaxPoint, -api.MaxPoint} {
					wantWhole(t, f.size, neg, 0, exp, more, f.signed(0, neg), nil)
				}
			}
		}
	}
}

// Words of every length, at and beside what is half way in either size, with every exponent about the edges.
func TestRN2Edges(t *testing.T) {
	c := chance(7)
	words := map[uint64]bool{}
	for length := 1; length <= 64; length++ {
		top := uint64(1) << (length - 1)
		for _, places := range []int{23, 24, 25, 52, 53, 54, length} {
			if length < places {
				continue
			}
			unit := uint64(1) << (length - places)
			for _, m := range []uint64{top, top + unit, top + unit/2, top + unit + unit/2, 2*top - unit, 2*top - unit/2, top | c.word()>>(65-length)} {
				for near := range uint64(3) {
					if x := m + near - 1; x>>(length-1) == 1 {
						words[x] = true
					}
				}
			}
		}
	}
	for m := range words {
		for _, edge := range []int{0, 128, -126, -149, 1024, -1022, -1074} {
			length := 0
			for x := m; x > 0; x >>= 1 {
				length++
			}
			for near := range 5 {
				wantWord(t, m, edge-length+near-2)
			}
		}
	}
}

func TestRN2ManyWords(t *testing.T) {
	c := chance(9)
	for range 20000 {
		m := c.word() >> (c.word() % 64)
		wantWord(t, m, int(c.word()%2400)-1300)
		wantWord(t, m, int(c.word()%400)-250)
	}
}
