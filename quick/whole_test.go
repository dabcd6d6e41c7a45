package quick

import (
	"sync"
	"testing"

	"numeral/api"
)

// mustBeSure is where the whole numbers end of which Shortest must be sure.
const mustBeSure = 1 << 24

func TestQU1WholeNumbers(t *testing.T) {
	for _, c := range []struct {
		n      uint64
		digits string
		point  int
	}{
		{1, "1", 1}, {2, "2", 1}, {3, "3", 1}, {4, "4", 1}, {5, "5", 1}, {7, "7", 1}, {8, "8", 1}, {9, "9", 1}, {10, "1", 2}, {11, "11", 2}, {16, "16", 2}, {20, "2", 2}, {32, "32", 2}, {90, "9", 2}, {99, "99", 2}, {100, "1", 3}, {101, "101", 3}, {110, "11", 3}, {128, "128", 3}, {250, "25", 3}, {256, "256", 3}, {999, "999", 3},
		{1000, "1", 4}, {1001, "1001", 4}, {1024, "1024", 4}, {9990, "999", 4}, {10000, "1", 5}, {10010, "1001", 5}, {65535, "65535", 5}, {65536, "65536", 5}, {100000, "1", 6}, {123000, "123", 6}, {500000, "5", 6}, {999999, "999999", 6}, {1000000, "1", 7}, {1000001, "1000001", 7}, {1048576, "1048576", 7}, {1234500, "12345", 7}, {9999999, "9999999", 7},
		{10000000, "1", 8}, {10000001, "10000001", 8}, {12300000, "123", 8}, {16000000, "16", 8}, {16777213, "16777213", 8}, {16777214, "16777214", 8}, {16777215, "16777215", 8},
	} {
		for _, f := range formats {
			f.wantSure(t, f.of(c.n), api.Dec{Digits: c.digits, Point: c.point})
		}
	}
}

func TestQU1WholeNumbersOfOneBit(t *testing.T) {
	for _, f := range formats {
		for n := uint64(1); n < mustBeSure; n *= 2 {
			f.wantSure(t, f.of(n), decimal(n, 0))
			f.wantSure(t, f.of(mustBeSure-n), decimal(mustBeSure-n, 0))
		}
	}
}

func TestQU1WholeNumbersWithNoughts(t *testing.T) {
	for _, f := range formats {
		for ten := uint64(10); ten < mustBeSure; ten *= 10 {
			for n := ten; n < mustBeSure; n += ten * (n/(100*ten) + 1) {
				f.wantSure(t, f.of(n), decimal(n, 0))
			}
		}
	}
}

// Every one of which it must be sure, in both sizes.
func TestQU1AllWholeNumbers(t *testing.T) {
	const workers = 8
	for _, f := range formats {
		var all sync.WaitGroup
		for worker := range uint64(workers) {
			all.Go(func() {
				for n := 1 + worker; n < mustBeSure; n += workers {
					want := decimal(n, 0)
					if d, sure, err := Shortest(f.of(n), f.size); d != want || !sure || err != nil {
						t.Errorf("Shortest of %d, %d: %s, %v, %v", n, f.size, told(d), sure, err)
						return
					}
				}
			})
		}
		all.Wait()
	}
}

// Greater whole numbers, with few digits and with many, are told rightly, or are not sure.
func TestQU1GreaterWholeNumbers(t *testing.T) {
	c := chance(2)
	for _, f := range formats {
		for e := range 39 {
			for n := uint64(1); n < 200; n++ {
				if float := f.read(decimal(n, e)); float < f.inf() {
					f.hold(t, float)
				}
			}
		}
		for range 3000 {
			n := c.word() >> c.within(0, 40)
			f.hold(t, f.of(n|1))
		}
	}
}
