package layout

import (
	"fmt"
	"math"
	"testing"
)

func TestLA3Table(t *testing.T) {
	for _, c := range []struct {
		n    int
		want string
	}{
		{0, "+00"},
		{1, "+01"},
		{-1, "-01"},
		{2, "+02"},
		{9, "+09"},
		{-9, "-09"},
		{10, "+10"},
		{-10, "-10"},
		{11, "+11"},
		{99, "+99"},
		{-99, "-99"},
		{100, "+100"},
		{-100, "-100"},
		{101, "+101"},
		{308, "+308"},
		{-324, "-324"},
		{999, "+999"},
		{1000, "+1000"},
		{-1000, "-1000"},
		{-1074, "-1074"},
		{1 << 31, "+2147483648"},
		{-1 << 31, "-2147483648"},
		{1 << 32, "+4294967296"},
		{-1<<32 - 1, "-4294967297"},
		{1e18, "+1000000000000000000"},
		{math.MaxInt, "+9223372036854775807"},
		{math.MaxInt - 1, "+9223372036854775806"},
		{math.MinInt, "-9223372036854775808"},
		{math.MinInt + 1, "-9223372036854775807"},
	} {
		wantExponent(t, c.n, c.want)
	}
}

// all exponents near 0, every power of two and of ten with those next to it, and many far off.
func TestLA3Many(t *testing.T) {
	list := []int{}
	for n := -12000; n <= 12000; n++ {
		list = append(list, n)
	}
	for up := range 64 {
		power := 1 << up
		list = append(list, power-1, power, power+1, -power, -power-1, 1-power)
	}
	for power := 1; power < 1e18; power *= 10 {
		list = append(list, power-1, power, power+1, -power, -power-1, 1-power)
	}
	c := chance(3)
	for range 20000 {
		list = append(list, int(c.word())>>c.within(0, 60))
	}
	for _, n := range list {
		wantExponent(t, n, fmt.Sprintf("%+03d", n))
	}
}
