package parse

import (
	"slices"
	"strconv"
	"testing"

	"numeral/api"
	"numeral/meter"
)

func wantAll(t *testing.T, l []string, size int, want []uint64, place int, text string, number api.Errno) {
	t.Helper()
	was := slices.Clone(l)
	for _, m := range []*meter.Meter{nil, meter.New()} {
		got, n, err := All(l, size, m)
		what := told("All", size, l...)
		if !slices.Equal(got, want) || n != place {
			t.Errorf("%s = %#x, %d, want %#x, %d", what, got, n, want, place)
		}
		wantError(t, what, err, "Parse", text, number)
	}
	if !slices.Equal(l, was) {
		t.Errorf("All changed its texts: %q, were %q", l, was)
	}
}

func TestPS3All(t *testing.T) {
	for _, f := range formats {
		one, neg := f.one(), f.sign()
		wantAll(t, nil, f.size, nil, 0, "", 0)
		wantAll(t, []string{}, f.size, nil, 0, "", 0)
		wantAll(t, []string{"1"}, f.size, []uint64{one}, 1, "", 0)
		wantAll(t, []string{"1", "1"}, f.size, []uint64{one, one}, 2, "", 0)
		wantAll(t, []string{"-1", "0", "-0", "nan", "-inf", "0x1p0"}, f.size, []uint64{neg | one, 0, neg, f.nan(), neg | f.inf(), one}, 6, "", 0)
		wantAll(t, []string{"1", "x", "2"}, f.size, nil, 1, "x", api.ErrSyntax)
		wantAll(t, []string{"", "1"}, f.size, nil, 0, "", api.ErrSyntax)
		wantAll(t, []string{"1", "2", ""}, f.size, nil, 2, "", api.ErrSyntax)
		wantAll(t, []string{"1", "1e400", "x"}, f.size, nil, 1, "1e400", api.ErrRange)
		wantAll(t, []string{"1", "y", "1e400"}, f.size, nil, 1, "y", api.ErrSyntax)
		wantAll(t, []string{"-1e400"}, f.size, nil, 0, "-1e400", api.ErrRange)
	}
}

// Each of many texts stands at its place, and what fails at a place takes away all.
func TestPS3ManyTexts(t *testing.T) {
	c := chance(5)
	for _, f := range formats {
		l := make([]string, 300)
		want := make([]uint64, len(l))
		for i := range l {
			l[i] = "-" + strconv.Itoa(c.within(0, 1000000)) + "e-7"
			want[i], _ = Parse(l[i], f.size, nil)
		}
		wantAll(t, l, f.size, want, len(l), "", 0)
		for _, at := range []int{0, 1, 150, 298, 299} {
			for s, number := range map[string]api.Errno{"1 ": api.ErrSyntax, "9e999": api.ErrRange} {
				broken := slices.Clone(l)
				broken[at] = s
				wantAll(t, broken, f.size, nil, at, s, number)
				broken[len(l)-1] = "?"
				if at < len(l)-1 {
					wantAll(t, broken, f.size, nil, at, s, number)
				}
			}
		}
	}
}

// A size that is none is refused at place 0 ahead of all texts, of which none is named; Same tells it as Parse does of its first text.
func TestPS3Sizes(t *testing.T) {
	for _, size := range noSizes {
		wantAll(t, nil, size, nil, 0, "", api.ErrBitSize)
		wantAll(t, []string{}, size, nil, 0, "", api.ErrBitSize)
		wantAll(t, []string{"1", "2"}, size, nil, 0, "", api.ErrBitSize)
		wantAll(t, []string{"x", "1e400"}, size, nil, 0, "", api.ErrBitSize)
		wantAll(t, []string{"1e400", "x"}, size, nil, 0, "", api.ErrBitSize)
		wantAll(t, texts, size, nil, 0, "", api.ErrBitSize)
		for _, s := range texts {
			wantAll(t, []string{s}, size, nil, 0, "", api.ErrBitSize)
			_, err := Same(s, "1", size)
			wantError(t, "Same", err, "Parse", s, api.ErrBitSize)
			_, err = Same("2", s, size)
			wantError(t, "Same", err, "Parse", "2", api.ErrBitSize)
		}
	}
}

// What All answers is new memory, spare room too, each time.
func TestPS3NewMemory(t *testing.T) {
	l := []string{"1", "2", "3"}
	first, _, _ := All(l, 64, nil)
	kept := slices.Clone(first)
	second, _, _ := All(l, 64, nil)
	clear(second[:cap(second)])
	if !slices.Equal(first, kept) {
		t.Errorf("two answers share memory: %#x, was %#x", first, kept)
	}
}

func wantSame(t *testing.T, a, b string, size int, want bool, text string, number api.Errno) {
	t.Helper()
	got, err := Same(a, b, size)
	what := told("Same", size, a, b)
	if got != want {
		t.Errorf("%s = %v", what, got)
	}
	wantError(t, what, err, "Parse", text, number)
}

func TestPS3Same(t *testing.T) {
	// Texts of one row are the same in both sizes, texts of two rows are not.
	rows := [][]string{
		{"0", "-0", "0.000", "0e99999", "-0x0p0", "1e-400", "-1e-400"},
		{"1", "1.0", "+1", "10e-1", "0x1p0", "0.000001e6", "1.0000000000000000000000000000001"},
		{"-1", "-1.0", "-0x.8p1", "-100e-2"},
		{"inf", "+Infinity", "1e400", "0x1p2000", "9e99999999999999999999", "1.8e308"},
		{"-inf", "-INFINITY", "-1e400", "-0x1p2000"},
		{"nan", "NaN", "nAn"},
		{"0.1", "1e-1", "0.10", "0.1000000000000000055511151231257827"},
		{"1.5", "1_5e-1", "0x3p-1"},
	}
	for _, f := range formats {
		for i, row := range rows {
			for j, other := range rows {
				for _, a := range row {
					for _, b := range other {
						wantSame(t, a, b, f.size, i == j, "", 0)
					}
				}
			}
		}
	}
	// What is the same in one size may not be in the other.
	wantSame(t, "16777216", "16777217", 32, true, "", 0)
	wantSame(t, "16777216", "16777217", 64, false, "", 0)
	wantSame(t, "3.5e38", "inf", 32, true, "", 0)
	wantSame(t, "3.5e38", "inf", 64, false, "", 0)
	wantSame(t, "9007199254740993", "9007199254740992", 64, true, "", 0)
	wantSame(t, "9007199254740993", "9007199254740994", 64, false, "", 0)
	wantSame(t, "1e-50", "-0", 32, true, "", 0)
	wantSame(t, "1e-50", "-0", 64, false, "", 0)
}

// The first text's error comes first; one beyond all floats is none.
func TestPS3SameErrors(t *testing.T) {
	for _, f := range formats {
		wantSame(t, "x", "1", f.size, false, "x", api.ErrSyntax)
		wantSame(t, "1", "y", f.size, false, "y", api.ErrSyntax)
		wantSame(t, "x", "y", f.size, false, "x", api.ErrSyntax)
		wantSame(t, "x", "x", f.size, false, "x", api.ErrSyntax)
		wantSame(t, "", "", f.size, false, "", api.ErrSyntax)
		wantSame(t, "1e400", "y", f.size, false, "y", api.ErrSyntax)
		wantSame(t, "x", "1e400", f.size, false, "x", api.ErrSyntax)
		wantSame(t, "1e400", "1e401", f.size, true, "", 0)
		wantSame(t, "1e400", "-1e400", f.size, false, "", 0)
		wantSame(t, "1e400", "1", f.size, false, "", 0)
		wantSame(t, "1", "1e400", f.size, false, "", 0)
		wantSame(t, "nan", "1e400", f.size, false, "", 0)
	}
}
