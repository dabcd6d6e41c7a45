package fixed

import (
	"strconv"
	"strings"
	"testing"
)

func TestFI2Ends(t *testing.T) {
	for _, c := range []struct {
		float         uint64
		size          int
		ahead, behind int
	}{
		{0, 64, 0, 0}, {1 << 63, 64, 0, 0}, {0, 32, 0, 0}, {1 << 31, 32, 0, 0},
		{0x3fe8000000000000, 64, 0, 2}, {0xbfe8000000000000, 64, 0, 2}, {0x3fe0000000000000, 64, 0, 1}, {0x3f000000, 32, 0, 1}, {0x3f400000, 32, 0, 2},
		{0x3ff0000000000000, 64, 1, 0}, {0x3f800000, 32, 1, 0}, {0xbf800000, 32, 1, 0}, {0x3fefffffffffffff, 64, 0, 53}, {0x3f7fffff, 32, 0, 24}, {0x3ff0000000000001, 64, 1, 52}, {0x3f800001, 32, 1, 23},
		{0x3ff8000000000000, 64, 1, 1}, {0x4023000000000000, 64, 1, 1}, {0x4024000000000000, 64, 2, 0}, {0x4058fd70a3d70a3d, 64, 2, 46}, {0x4059000000000000, 64, 3, 0}, {0x3fb999999999999a, 64, 0, 55}, {0x3dcccccd, 32, 0, 27}, {0x40c81c8000000000, 64, 5, 0}, {0x40c81c8800000000, 64, 5, 4},
		// Whole numbers that end in noughts: 1e22, 1e21, 1e10, 10, and some of as many bits as a mantissa.
		{0x4480f0cf064dd592, 64, 23, 0}, {0xc480f0cf064dd592, 64, 23, 0}, {0x444b1ae4d6e2ef50, 64, 22, 0}, {0x4202a05f20000000, 64, 11, 0}, {0x501502f9, 32, 11, 0}, {0x41200000, 32, 2, 0}, {0x4b800000, 32, 8, 0}, {0x4b7fffff, 32, 8, 0}, {0x4b000001, 32, 7, 0}, {0x4affffff, 32, 7, 1},
		// The least, the greatest denormal, the least that is not, the greatest.
		{1, 64, 0, 1074}, {2, 64, 0, 1073}, {3, 64, 0, 1074}, {1, 32, 0, 149}, {2, 32, 0, 148}, {1<<31 | 1, 32, 0, 149}, {0x000fffffffffffff, 64, 0, 1074}, {0x0010000000000000, 64, 0, 1022}, {0x007fffff, 32, 0, 149}, {0x00800000, 32, 0, 126}, {0x7fefffffffffffff, 64, 309, 0}, {0x7f7fffff, 32, 39, 0}, {0xff7fffff, 32, 39, 0},
	} {
		wantEnds(t, c.float, c.size, c.ahead, c.behind, nil)
	}
}

// holdEnds asks for a float's ends, and for what Exactly makes of the last of them.
func (f format) holdEnds(t *testing.T, float uint64) {
	t.Helper()
	// The library tells the value to its end, and noughts behind it.
	ahead, behind, _ := strings.Cut(strconv.FormatFloat(f.native(float), 'f', places, 64), ".")
	last := len(strings.TrimRight(behind, "0"))
	first := len(strings.TrimLeft(ahead, "0"))
	value := f.value(float)
	if float != 0 && (last != max(0, places-noughts(value)) || first != max(0, length(value)-places)) {
		t.Fatalf("%#x of %d: what it is held against, %d and %d, is wrong", float, f.size, first, last)
	}
	for _, float := range f.signed(float) {
		wantEnds(t, float, f.size, first, last, nil)
		for _, n := range []int{last, last + 1, last + 9, mostPlaces} {
			wantExactly(t, float, f.size, n, true, nil)
		}
		for _, n := range []int{0, 1, last / 2, last - 2, last - 1} {
			if n >= 0 {
				wantExactly(t, float, f.size, n, n >= last, nil)
			}
		}
	}
}

func TestFI2EndsOfEveryKind(t *testing.T) {
	for _, f := range formats {
		f.everyKind(1500, func(float uint64) { f.holdEnds(t, float) })
	}
}

// All that is told of whole numbers and of halves, fourths and eighths of them.
func TestFI2EndsOfSmallFractions(t *testing.T) {
	for _, f := range formats {
		for n := range 3000 {
			f.holdEnds(t, f.read("0x"+strconv.FormatInt(int64(n), 16)+"p-3"))
		}
	}
}

func TestFI2Exactly(t *testing.T) {
	for _, c := range []struct {
		float uint64
		size  int
		n     int
		want  bool
	}{
		{0x3fe8000000000000, 64, 0, false}, {0x3fe8000000000000, 64, 1, false}, {0x3fe8000000000000, 64, 2, true}, {0x3fe8000000000000, 64, 3, true}, {0xbfe8000000000000, 64, 1, false}, {0xbfe8000000000000, 64, 2, true}, {0x3f400000, 32, 1, false}, {0x3f400000, 32, 2, true},
		{0x3fb999999999999a, 64, 1, false}, {0x3fb999999999999a, 64, 17, false}, {0x3fb999999999999a, 64, 54, false}, {0x3fb999999999999a, 64, 55, true}, {0x3fb999999999999a, 64, 56, true},
		// Half way and up to a power of ten: near, but not the value.
		{0x3fe0000000000000, 64, 0, false}, {0x3ff8000000000000, 64, 0, false}, {0x4023000000000000, 64, 0, false}, {0x3fefffffffffffff, 64, 15, false}, {0x3fefffffffffffff, 64, 0, false}, {0x3fefffffffffffff, 64, 52, false}, {0x3fefffffffffffff, 64, 53, true},
		// Where nothing is left the value is none of it, but of a nought.
		{1, 64, 0, false}, {1, 64, 300, false}, {1, 64, 1073, false}, {1, 64, 1074, true}, {1, 64, mostPlaces, true}, {1, 32, 148, false}, {1, 32, 149, true}, {0x01a56e1fc2f8f359, 64, 0, false}, {0x01a56e1fc2f8f359, 64, 300, false},
		{0, 64, 0, true}, {1 << 63, 64, 0, true}, {0, 64, mostPlaces, true}, {0, 32, 0, true}, {1 << 31, 32, 5, true},
		{0x3ff0000000000000, 64, 0, true}, {0x3ff0000000000000, 64, mostPlaces, true}, {0x444b1ae4d6e2ef50, 64, 0, true}, {0x7fefffffffffffff, 64, 0, true}, {0x7f7fffff, 32, 0, true}, {0x7f7fffff, 32, mostPlaces, true},
	} {
		wantExactly(t, c.float, c.size, c.n, c.want, nil)
	}
}

// Exactly is true just where Places is the value itself, and from the last place on.
func TestFI2ExactlyIsThatOfPlaces(t *testing.T) {
	c := chance(4)
	for _, f := range formats {
		f.everyKind(1500, func(float uint64) {
			value := f.value(float)
			_, last, err := Ends(float, f.size)
			if err != nil {
				t.Fatalf("Ends(%#x, %d): %v", float, f.size, err)
			}
			for _, n := range []int{0, last - 1, last, last + 1, c.within(1, 60), c.within(1, mostPlaces)} {
				if n < 0 {
					continue
				}
				d, err := Places(float, f.size, n)
				same := units(t, d).Cmp(value) == 0
				if err != nil || same != (n >= last) {
					t.Errorf("Places(%#x, %d, %d): %s, %v, but %d places are all", float, f.size, n, told(d), err, last)
				}
				wantExactly(t, float, f.size, n, same, nil)
			}
		})
	}
}
