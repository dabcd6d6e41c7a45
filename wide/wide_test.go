package wide

import (
	"errors"
	"math"
	"math/big"
	"strings"
	"testing"

	"numeral/api"
)

const maxWord = math.MaxUint64

var (
	top   = new(big.Int).Lsh(big.NewInt(1), 128)
	worst = api.U128{Hi: maxWord, Lo: maxWord}
	// Every stretch of a shift: below 0, within a word, at its edges, within the second one, past both.
	shifts = []int{math.MinInt, -128, -64, -1, 0, 1, 2, 31, 32, 62, 63, 64, 65, 66, 100, 126, 127, 128, 129, 191, 192, 256, 1 << 20, math.MaxInt}
)

// words are the edges of a word, and some between them.
func words() []uint64 {
	list := []uint64{0, 1, 2, 3, 9, 10, 11, 99, 100, 1<<32 - 1, 1 << 32, 1<<32 + 1, 1<<63 - 1, 1 << 63, 1<<63 + 1,
		1e18, 1e19 - 1, 1e19, 1e19 + 1, maxWord - 1, maxWord}
	next := uint64(1)
	for range 12 {
		next = next*6364136223846793005 + 1442695040888963407
		list = append(list, next, next>>(next%64))
	}
	return list
}

// numbers are all pairs of words.
func numbers() []api.U128 {
	var list []api.U128
	for _, hi := range words() {
		for _, lo := range words() {
			list = append(list, api.U128{Hi: hi, Lo: lo})
		}
	}
	return list
}

// few are so few numbers that all pairs of them may be gone through.
func few() []api.U128 {
	list := []api.U128{{}, {Lo: 1}, {Lo: maxWord}, {Hi: 1}, {Hi: 1, Lo: 1}, {Hi: maxWord}, worst, {Hi: maxWord, Lo: maxWord - 1}, {Hi: 1 << 63}}
	for i, a := range numbers() {
		if i%7 == 0 {
			list = append(list, a)
		}
	}
	return list
}

func great(a api.U128) *big.Int {
	x := new(big.Int).SetUint64(a.Hi)
	return x.Lsh(x, 64).Or(x, new(big.Int).SetUint64(a.Lo))
}

func word(a uint64) *big.Int { return new(big.Int).SetUint64(a) }

// is says whether a is x modulo 2^128.
func is(a api.U128, x *big.Int) bool {
	return great(a).Cmp(new(big.Int).Mod(x, top)) == 0
}

func TestMul(t *testing.T) {
	if a := Mul(1<<63, 6); a != (api.U128{Hi: 3}) {
		t.Errorf("Mul(2^63, 6) = %v", a)
	}
	if a := Mul(maxWord, maxWord); a != (api.U128{Hi: maxWord - 1, Lo: 1}) {
		t.Errorf("Mul of the greatest: %v", a)
	}
	for _, a := range words() {
		for _, b := range words() {
			if p := Mul(a, b); !is(p, new(big.Int).Mul(word(a), word(b))) {
				t.Fatalf("Mul(%d, %d) = %v", a, b, p)
			}
		}
	}
}

func TestAddEdges(t *testing.T) {
	for _, c := range []struct {
		a, b, sum api.U128
		cut       bool
	}{
		{api.U128{}, api.U128{}, api.U128{}, false},
		{api.U128{Lo: maxWord}, api.U128{Lo: 1}, api.U128{Hi: 1}, false},
		{worst, api.U128{}, worst, false},
		{worst, api.U128{Lo: 1}, api.U128{}, true},
		{worst, worst, api.U128{Hi: maxWord, Lo: maxWord - 1}, true},
		{api.U128{Hi: 1 << 63}, api.U128{Hi: 1 << 63}, api.U128{}, true},
		{api.U128{Hi: maxWord}, api.U128{Lo: maxWord}, worst, false},
	} {
		if sum, cut := Add(c.a, c.b); sum != c.sum || cut != c.cut {
			t.Errorf("Add(%v, %v) = %v, %v", c.a, c.b, sum, cut)
		}
	}
}

func TestSubEdges(t *testing.T) {
	for _, c := range []struct {
		a, b, rest api.U128
		below      bool
	}{
		{api.U128{}, api.U128{}, api.U128{}, false},
		{api.U128{}, api.U128{Lo: 1}, worst, true},
		{api.U128{Hi: 1}, api.U128{Lo: 1}, api.U128{Lo: maxWord}, false},
		{worst, worst, api.U128{}, false},
		{api.U128{}, worst, api.U128{Lo: 1}, true},
		{api.U128{Hi: 5}, api.U128{Hi: 5, Lo: 1}, worst, true},
	} {
		if rest, below := Sub(c.a, c.b); rest != c.rest || below != c.below {
			t.Errorf("Sub(%v, %v) = %v, %v", c.a, c.b, rest, below)
		}
	}
}

func TestSumsAgainstGreatNumbers(t *testing.T) {
	for _, a := range few() {
		for _, b := range few() {
			x, y := great(a), great(b)
			want := new(big.Int).Add(x, y)
			sum, cut := Add(a, b)
			if !is(sum, want) || cut != (want.Cmp(top) >= 0) {
				t.Fatalf("Add(%v, %v) = %v, %v", a, b, sum, cut)
			}
			rest, below := Sub(a, b)
			if !is(rest, new(big.Int).Sub(x, y)) || below != (x.Cmp(y) < 0) {
				t.Fatalf("Sub(%v, %v) = %v, %v", a, b, rest, below)
			}
			if n := Compare(a, b); n != x.Cmp(y) {
				t.Fatalf("Compare(%v, %v) = %d", a, b, n)
			}
			// What Add cut, Sub borrows.
			if back, again := Sub(sum, b); back != a || again != cut {
				t.Fatalf("Sub(Add(%v, %v)) = %v, %v", a, b, back, again)
			}
		}
	}
}

func TestCompareEdges(t *testing.T) {
	for _, c := range []struct {
		a, b api.U128
		want int
	}{
		{api.U128{}, api.U128{}, 0},
		{worst, worst, 0},
		{api.U128{}, worst, -1},
		{worst, api.U128{}, 1},
		{api.U128{Hi: 1}, api.U128{Lo: maxWord}, 1},
		{api.U128{Lo: maxWord}, api.U128{Hi: 1}, -1},
		{api.U128{Hi: 7, Lo: 1}, api.U128{Hi: 7, Lo: 2}, -1},
		{api.U128{Hi: 7, Lo: 2}, api.U128{Hi: 7, Lo: 1}, 1},
	} {
		if n := Compare(c.a, c.b); n != c.want {
			t.Errorf("Compare(%v, %v) = %d", c.a, c.b, n)
		}
	}
}

func TestLeftEdges(t *testing.T) {
	a := api.U128{Hi: 5, Lo: 1<<63 | 3}
	for _, c := range []struct {
		n    int
		want api.U128
	}{
		{math.MinInt, a}, {-1, a}, {0, a},
		{1, api.U128{Hi: 11, Lo: 6}},
		{63, api.U128{Hi: 1<<63 | 1<<62 | 1, Lo: 1 << 63}},
		{64, api.U128{Hi: 1<<63 | 3}},
		{65, api.U128{Hi: 6}},
		{127, api.U128{Hi: 1 << 63}},
		{128, api.U128{}}, {129, api.U128{}}, {192, api.U128{}}, {math.MaxInt, api.U128{}},
	} {
		if got := Left(a, c.n); got != c.want {
			t.Errorf("Left(%v, %d) = %v", a, c.n, got)
		}
	}
}

func TestRightEdges(t *testing.T) {
	a := api.U128{Hi: 1<<63 | 5, Lo: 1 << 63}
	for _, c := range []struct {
		n    int
		want api.U128
		cut  bool
	}{
		{math.MinInt, a, false}, {-1, a, false}, {0, a, false},
		{1, api.U128{Hi: 1<<62 | 2, Lo: 1<<63 | 1<<62}, false},
		{63, api.U128{Hi: 1, Lo: 11}, false},
		{64, api.U128{Lo: 1<<63 | 5}, true},
		{65, api.U128{Lo: 1<<62 | 2}, true},
		{127, api.U128{Lo: 1}, true},
		{128, api.U128{}, true}, {129, api.U128{}, true}, {192, api.U128{}, true}, {math.MaxInt, api.U128{}, true},
	} {
		if got, cut := Right(a, c.n); got != c.want || cut != c.cut {
			t.Errorf("Right(%v, %d) = %v, %v", a, c.n, got, cut)
		}
	}
	if got, cut := Right(api.U128{Hi: 1, Lo: 1}, 1); got != (api.U128{Lo: 1 << 63}) || !cut {
		t.Errorf("Right({1, 1}, 1) = %v, %v", got, cut)
	}
	for _, n := range shifts {
		if got, cut := Right(api.U128{}, n); got != (api.U128{}) || cut {
			t.Errorf("Right(0, %d) = %v, %v", n, got, cut)
		}
	}
	if _, cut := Right(api.U128{Hi: 1 << 63}, 127); cut {
		t.Error("Right(2^127, 127) cut something")
	}
}

func TestShiftsAgainstGreatNumbers(t *testing.T) {
	for _, a := range numbers() {
		x := great(a)
		for _, n := range shifts {
			// A great number can't be shifted so far; from 128 on all shifts are the same.
			k := uint(min(max(n, 0), 300))
			if got := Left(a, n); !is(got, new(big.Int).Lsh(x, k)) {
				t.Fatalf("Left(%v, %d) = %v", a, n, got)
			}
			want := new(big.Int).Rsh(x, k)
			got, cut := Right(a, n)
			if !is(got, want) || cut != (new(big.Int).Lsh(want, k).Cmp(x) != 0) {
				t.Fatalf("Right(%v, %d) = %v, %v", a, n, got, cut)
			}
		}
	}
}

func TestShiftsGiveBackWhatWasNotCut(t *testing.T) {
	for _, a := range numbers() {
		for _, n := range shifts {
			down, cut := Right(a, n)
			if back := Left(down, n); (back == a) == cut {
				t.Fatalf("Left(Right(%v, %d)) = %v, cut %v", a, n, back, cut)
			}
			if n <= Lead(a) {
				if back, cut := Right(Left(a, n), n); back != a || cut {
					t.Fatalf("Right(Left(%v, %d)) = %v, cut %v", a, n, back, cut)
				}
			}
		}
	}
}

func TestLeadAndTrail(t *testing.T) {
	for _, c := range []struct {
		a           api.U128
		lead, trail int
	}{
		{api.U128{}, 128, 128},
		{api.U128{Lo: 1}, 127, 0},
		{api.U128{Lo: 1 << 63}, 64, 63},
		{api.U128{Lo: maxWord}, 64, 0},
		{api.U128{Hi: 1}, 63, 64},
		{api.U128{Hi: 1 << 63}, 0, 127},
		{api.U128{Hi: 2, Lo: 8}, 62, 3},
		{worst, 0, 0},
	} {
		if lead, trail := Lead(c.a), Trail(c.a); lead != c.lead || trail != c.trail {
			t.Errorf("Lead and Trail of %v: %d, %d", c.a, lead, trail)
		}
	}
	for _, a := range numbers() {
		x := great(a)
		if n := Lead(a); n != 128-x.BitLen() {
			t.Fatalf("Lead(%v) = %d", a, n)
		}
		if n := Trail(a); x.Sign() != 0 && n != int(x.TrailingZeroBits()) {
			t.Fatalf("Trail(%v) = %d", a, n)
		}
	}
}

func TestMulWord(t *testing.T) {
	if hi, lo := MulWord(worst, maxWord); hi != maxWord-1 || lo != (api.U128{Hi: maxWord, Lo: 1}) {
		t.Errorf("MulWord of the greatest: %d, %v", hi, lo)
	}
	// The middle word's carry alone.
	if hi, lo := MulWord(worst, 2); hi != 1 || lo != (api.U128{Hi: maxWord, Lo: maxWord - 1}) {
		t.Errorf("MulWord(2^128 - 1, 2): %d, %v", hi, lo)
	}
	for _, a := range numbers() {
		for _, b := range words() {
			hi, lo := MulWord(a, b)
			got := word(hi)
			got.Lsh(got, 128).Or(got, great(lo))
			if got.Cmp(new(big.Int).Mul(great(a), word(b))) != 0 {
				t.Fatalf("MulWord(%v, %d) = %d, %v", a, b, hi, lo)
			}
		}
	}
}

func TestDivWordByNought(t *testing.T) {
	for _, a := range []api.U128{{}, {Lo: 1}, {Hi: 1}, worst} {
		q, left, err := DivWord(a, 0)
		if err != api.ErrZero || q != (api.U128{}) || left != 0 {
			t.Errorf("DivWord(%v, 0) = %v, %d, %v", a, q, left, err)
		}
	}
}

func TestDivWord(t *testing.T) {
	for _, a := range numbers() {
		for _, b := range words() {
			if b == 0 {
				continue
			}
			q, left, err := DivWord(a, b)
			want, rest := new(big.Int).QuoRem(great(a), word(b), new(big.Int))
			if err != nil || !is(q, want) || left != rest.Uint64() {
				t.Fatalf("DivWord(%v, %d) = %v, %d, %v", a, b, q, left, err)
			}
			over, back := MulWord(q, b)
			sum, cut := Add(back, api.U128{Lo: left})
			if over != 0 || cut || sum != a || left >= b {
				t.Fatalf("DivWord(%v, %d): quotient times b and what is left are %d, %v", a, b, over, sum)
			}
		}
	}
}

func TestTextAndRead(t *testing.T) {
	for _, c := range []struct {
		a api.U128
		s string
	}{
		{api.U128{}, "0"},
		{api.U128{Lo: 7}, "7"},
		{api.U128{Lo: 10}, "10"},
		{api.U128{Lo: 1000000}, "1000000"},
		{api.U128{Lo: maxWord}, "18446744073709551615"},
		{api.U128{Hi: 1}, "18446744073709551616"},
		{worst, "340282366920938463463374607431768211455"},
	} {
		if s := Text(c.a); s != c.s {
			t.Errorf("Text(%v) = %q", c.a, s)
		}
		if a, err := Read(c.s); a != c.a || err != nil {
			t.Errorf("Read(%q) = %v, %v", c.s, a, err)
		}
	}
	for _, a := range numbers() {
		s := Text(a)
		if s != great(a).String() {
			t.Fatalf("Text(%v) = %q", a, s)
		}
		if back, err := Read(s); back != a || err != nil {
			t.Fatalf("Read(%q) = %v, %v", s, back, err)
		}
	}
}

func TestPowersOfTenAsTexts(t *testing.T) {
	for n := range 39 {
		s := "1" + strings.Repeat("0", n)
		a, err := Read(s)
		if want, _ := new(big.Int).SetString(s, 10); err != nil || !is(a, want) {
			t.Fatalf("Read(%q) = %v, %v", s, a, err)
		}
		if back := Text(a); back != s {
			t.Fatalf("Text(%v) = %q", a, back)
		}
	}
}

func TestReadRefuses(t *testing.T) {
	long := strings.Repeat("9", 100000)
	for _, c := range []struct {
		s    string
		want api.Errno
	}{
		{"", api.ErrSyntax},
		{"00", api.ErrSyntax},
		{"01", api.ErrSyntax},
		{"0340282366920938463463374607431768211456", api.ErrSyntax},
		{"+1", api.ErrSyntax},
		{"-1", api.ErrSyntax},
		{"-0", api.ErrSyntax},
		{" 1", api.ErrSyntax},
		{"1 ", api.ErrSyntax},
		{"1\n", api.ErrSyntax},
		{"1_0", api.ErrSyntax},
		{"0x1", api.ErrSyntax},
		{"1.0", api.ErrSyntax},
		{"1e3", api.ErrSyntax},
		{"a", api.ErrSyntax},
		{"/", api.ErrSyntax},
		{"1:", api.ErrSyntax},
		{"1/", api.ErrSyntax},
		{"\x00", api.ErrSyntax},
		{"\xff", api.ErrSyntax},
		{"1\u0661", api.ErrSyntax},
		// The wrong byte counts, though the digits ahead of it are too many.
		{"340282366920938463463374607431768211456x", api.ErrSyntax},
		{long + "x", api.ErrSyntax},
		{"340282366920938463463374607431768211456", api.ErrRange},
		{"340282366920938463463374607431768211460", api.ErrRange},
		{"340282366920938463463374607431768211465", api.ErrRange},
		{"400000000000000000000000000000000000000", api.ErrRange},
		{"999999999999999999999999999999999999999", api.ErrRange},
		{"1000000000000000000000000000000000000000", api.ErrRange},
		// Modulo 2^128 this is 0 again.
		{"3402823669209384634633746074317682114560", api.ErrRange},
		{long, api.ErrRange},
	} {
		a, err := Read(c.s)
		if err != c.want || !errors.Is(err, c.want) || a != (api.U128{}) {
			t.Errorf("Read(%.50q) = %v, %v; want %v", c.s, a, err, c.want)
		}
	}
}

func TestReadAroundTheGreatest(t *testing.T) {
	for d := int64(-300); d <= 300; d++ {
		x := new(big.Int).Add(top, big.NewInt(d))
		a, err := Read(x.String())
		if d < 0 && (err != nil || !is(a, x)) || d >= 0 && (err != api.ErrRange || a != api.U128{}) {
			t.Fatalf("Read(2^128 + %d) = %v, %v", d, a, err)
		}
	}
}

// Every byte but a digit is refused, at every place of a short text.
func TestReadEveryByte(t *testing.T) {
	for b := range 256 {
		digit := b >= '0' && b <= '9'
		for _, s := range []string{"1" + string([]byte{byte(b)}), "1" + string([]byte{byte(b)}) + "2"} {
			if _, err := Read(s); digit != (err == nil) || !digit && err != api.ErrSyntax {
				t.Errorf("Read(%q): %v", s, err)
			}
		}
		first := string([]byte{byte(b)}) + "5"
		if _, err := Read(first); (digit && b != '0') != (err == nil) {
			t.Errorf("Read(%q): %v", first, err)
		}
	}
}
