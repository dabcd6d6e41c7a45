package nat

import (
	"errors"
	"math"
	"math/big"
	"slices"
	"strings"
	"testing"

	"numeral/api"
)

const maxWord = math.MaxUint64

// ones is a number of n words whose bits are all 1.
func ones(n int) Nat { return slices.Repeat(Nat{maxWord}, n) }

// topOne is 2^(64 * (n - 1)): the least number of n words.
func topOne(n int) Nat {
	a := make(Nat, n)
	a[n-1] = 1
	return a
}

// The numbers that may not be: too long; a nought on top; both, which is too long.
func tooLong() Nat   { return ones(api.MaxWords + 1) }
func noughtTop() Nat { return Nat{1, 0} }
func bothWrong() Nat { return make(Nat, api.MaxWords+1) }

// chance is a row of words that is always the same.
type chance uint64

func (c *chance) word() uint64 {
	*c = *c*6364136223846793005 + 1442695040888963407
	x := uint64(*c)
	return x ^ x>>29 ^ x<<31
}

// rough is a number of n words, many of them all 0 or all 1, where carries run and guesses go wrong.
func (c *chance) rough(n int) Nat {
	a := make(Nat, n)
	for i := range a {
		switch w := c.word(); w % 6 {
		case 0:
			a[i] = 0
		case 1:
			a[i] = maxWord
		case 2:
			a[i] = 1 << 63
		case 3:
			a[i] = 1<<63 - 1
		case 4:
			a[i] = w >> (w % 64)
		default:
			a[i] = c.word()
		}
	}
	if n > 0 && a[n-1] == 0 {
		a[n-1] = 1 + c.word()>>1
	}
	return a
}

// numbers are edges and rough ones of several lengths.
func numbers() []Nat {
	list := []Nat{nil, {}, {1}, {2}, {3}, {10}, {1 << 63}, {maxWord - 1}, {maxWord}, {0, 1}, {1, 1}, {maxWord, 1}, {0, 1 << 63}, ones(2),
		{0, 0, 1}, {maxWord, 0, 1}, {0, maxWord, maxWord}, ones(3), topOne(64), ones(64), ones(65), topOne(api.MaxWords), ones(api.MaxWords)}
	c := chance(1)
	for _, n := range []int{1, 1, 2, 2, 3, 3, 4, 5, 8, 13, 31, 63, 64, 65, 100, 127, 128} {
		list = append(list, c.rough(n))
	}
	return list
}

func great(a Nat) *big.Int {
	x := new(big.Int)
	for _, w := range slices.Backward(a) {
		x.Lsh(x, 64).Or(x, new(big.Int).SetUint64(w))
	}
	return x
}

func of(x *big.Int) Nat {
	var a Nat
	rest, word := new(big.Int).Set(x), new(big.Int).SetUint64(maxWord)
	for rest.Sign() > 0 {
		a = append(a, new(big.Int).And(rest, word).Uint64())
		rest.Rsh(rest, 64)
	}
	return a
}

// is says whether an answer is x; or, of an x of too many words, whether it is refused.
func is(a Nat, err error, x *big.Int) bool {
	if x.BitLen() > 64*api.MaxWords {
		return a == nil && err == api.ErrBig
	}
	return err == nil && slices.Equal(a, of(x))
}

func TestValid(t *testing.T) {
	for _, a := range numbers() {
		if err := Valid(a); err != nil {
			t.Errorf("Valid of %d words: %v", len(a), err)
		}
	}
	for _, c := range []struct {
		name string
		a    Nat
		err  error
	}{
		{"too long", tooLong(), api.ErrBig},
		{"too long by far", ones(5000), api.ErrBig},
		{"too long, and all noughts", bothWrong(), api.ErrBig},
		{"a nought on top", noughtTop(), api.ErrArg},
		{"one nought", Nat{0}, api.ErrArg},
		{"as long as may be, with a nought on top", make(Nat, api.MaxWords), api.ErrArg},
	} {
		if err := Valid(c.a); err != c.err {
			t.Errorf("Valid, %s: %v", c.name, err)
		}
	}
}

func TestOfAndWord(t *testing.T) {
	if a := Of(0); len(a) != 0 {
		t.Errorf("Of(0) = %v", a)
	}
	for _, x := range []uint64{0, 1, 2, 1 << 32, 1 << 63, maxWord} {
		a := Of(x)
		if Valid(a) != nil || great(a).Cmp(new(big.Int).SetUint64(x)) != 0 {
			t.Errorf("Of(%d) = %v", x, a)
		}
		if back, ok := Word(a); back != x || !ok {
			t.Errorf("Word(Of(%d)) = %d, %v", x, back, ok)
		}
	}
	if x, ok := Word(Nat{}); x != 0 || !ok {
		t.Errorf("Word of an empty slice: %d, %v", x, ok)
	}
	for _, a := range []Nat{{0}, {5, 0}, {0, 1}, {7, 1}, ones(api.MaxWords), tooLong(), bothWrong()} {
		if x, ok := Word(a); x != 0 || ok {
			t.Errorf("Word of %d words: %d, %v", len(a), x, ok)
		}
	}
}

// pairCalls are the calls of two numbers, what they answer beside the error put into one list.
func pairCalls() map[string]func(a, b Nat) ([]Nat, error) {
	return map[string]func(a, b Nat) ([]Nat, error){
		"Cmp": func(a, b Nat) ([]Nat, error) {
			n, err := Cmp(a, b)
			return []Nat{Of(uint64(n))}, err
		},
		"Add": func(a, b Nat) ([]Nat, error) { z, err := Add(a, b); return []Nat{z}, err },
		"Sub": func(a, b Nat) ([]Nat, error) { z, err := Sub(a, b); return []Nat{z}, err },
		"Mul": func(a, b Nat) ([]Nat, error) { z, err := Mul(a, b); return []Nat{z}, err },
		"Div": func(a, b Nat) ([]Nat, error) { q, r, err := Div(a, b); return []Nat{q, r}, err },
	}
}

// singleCalls are the calls of one number and one more argument: the first of two is a good one, the other is wrong.
func singleCalls() map[string]func(a Nat, wrong bool) ([]Nat, error) {
	pick := func(wrong bool, good, bad int) int {
		if wrong {
			return bad
		}
		return good
	}
	return map[string]func(a Nat, wrong bool) ([]Nat, error){
		"DivWord": func(a Nat, wrong bool) ([]Nat, error) {
			z, left, err := DivWord(a, uint64(pick(wrong, 1, 0)))
			return []Nat{z, Of(left)}, err
		},
		"Shl": func(a Nat, wrong bool) ([]Nat, error) { z, err := Shl(a, pick(wrong, 0, -1)); return []Nat{z}, err },
		"Shr": func(a Nat, wrong bool) ([]Nat, error) {
			z, cut, err := Shr(a, pick(wrong, 0, -1))
			if cut {
				z = append(z, 1)
			}
			return []Nat{z}, err
		},
		"Bits":  func(a Nat, _ bool) ([]Nat, error) { n, err := Bits(a); return []Nat{Of(uint64(n))}, err },
		"Zeros": func(a Nat, _ bool) ([]Nat, error) { n, err := Zeros(a); return []Nat{Of(uint64(n))}, err },
		"Digits": func(a Nat, wrong bool) ([]Nat, error) {
			s, err := Digits(a, pick(wrong, 16, 37))
			return []Nat{Of(uint64(len(s)))}, err
		},
	}
}

func allNothing(list []Nat) bool {
	for _, a := range list {
		if len(a) > 0 {
			return false
		}
	}
	return true
}

func TestErrorsOfNumbersInTheirOrder(t *testing.T) {
	for name, call := range pairCalls() {
		for _, c := range []struct {
			about string
			a, b  Nat
			err   error
		}{
			{"a too long", tooLong(), Nat{1}, api.ErrBig},
			{"b too long", Nat{1}, tooLong(), api.ErrBig},
			{"a with a nought on top", noughtTop(), Nat{1}, api.ErrArg},
			{"b with a nought on top", Nat{1}, noughtTop(), api.ErrArg},
			{"a too long ahead of b with a nought on top", tooLong(), noughtTop(), api.ErrBig},
			{"a with a nought on top ahead of b too long", noughtTop(), tooLong(), api.ErrArg},
			{"a wrong in both ways", bothWrong(), noughtTop(), api.ErrBig},
			{"b wrong in both ways", Nat{1}, bothWrong(), api.ErrBig},
			{"a with a nought on top, b 0", noughtTop(), nil, api.ErrArg},
			{"a too long, b 0", tooLong(), Nat{}, api.ErrBig},
			{"a 0, b with a nought on top", nil, noughtTop(), api.ErrArg},
			{"a 0, b one nought", nil, Nat{0}, api.ErrArg},
			{"a the greatest, b with a nought on top", ones(api.MaxWords), noughtTop(), api.ErrArg},
		} {
			if list, err := call(c.a, c.b); err != c.err || !allNothing(list) {
				t.Errorf("%s, %s: %v, %v", name, c.about, list, err)
			}
		}
	}
	for name, call := range singleCalls() {
		for _, wrong := range []bool{false, true} {
			for _, c := range []struct {
				a   Nat
				err error
			}{{tooLong(), api.ErrBig}, {noughtTop(), api.ErrArg}, {bothWrong(), api.ErrBig}, {Nat{0}, api.ErrArg}} {
				if list, err := call(c.a, wrong); err != c.err || !allNothing(list) {
					t.Errorf("%s of %d words, with a wrong argument %v: %v, %v", name, len(c.a), wrong, list, err)
				}
			}
		}
	}
}

func TestErrorsAreTheNumbersThemselves(t *testing.T) {
	_, err := Sub(nil, Nat{1})
	if !errors.Is(err, api.ErrBelow) || errors.Is(err, api.ErrArg) {
		t.Errorf("Sub(0, 1): %v", err)
	}
	if n, ok := err.(api.Errno); !ok || n != 21 {
		t.Errorf("Sub(0, 1): %v", err)
	}
}

// spoil writes over all that an answer may reach.
func spoil(list []Nat) {
	for _, a := range list {
		a = a[:cap(a)]
		for i := range a {
			a[i] ^= 0x5555555555555555
		}
	}
}

// holds checks what an answer shares: no room behind it, nothing with an argument, nothing with its neighbour.
func holds(t *testing.T, name string, answers []Nat, arguments ...Nat) {
	t.Helper()
	for _, a := range answers {
		if cap(a) != len(a) {
			t.Fatalf("%s: room of %d behind %d words", name, cap(a), len(a))
		}
	}
	var before []Nat
	for _, a := range arguments {
		before = append(before, slices.Clone(a))
	}
	if len(answers) > 1 {
		other := slices.Clone(answers[1])
		spoil(answers[:1])
		if !slices.Equal(answers[1], other) {
			t.Fatalf("%s: its answers share memory", name)
		}
	}
	spoil(answers)
	for i, a := range arguments {
		if !slices.Equal(a, before[i]) {
			t.Fatalf("%s: an answer shares memory with an argument", name)
		}
	}
}

func TestNewMemory(t *testing.T) {
	for _, a := range numbers() {
		for _, b := range []Nat{nil, {1}, {7}, {0, 1}, ones(3), slices.Clone(a)} {
			x, y := slices.Clone(a), slices.Clone(b)
			for name, call := range pairCalls() {
				answers, _ := call(x, y)
				if !slices.Equal(x, a) || !slices.Equal(y, b) {
					t.Fatalf("%s changed an argument", name)
				}
				if name != "Cmp" {
					holds(t, name, answers, x, y)
				}
				x, y = slices.Clone(a), slices.Clone(b)
			}
		}
		for _, n := range []int{0, 1, 64, 9000} {
			x := slices.Clone(a)
			up, _ := Shl(x, n)
			holds(t, "Shl", []Nat{up}, x)
			x = slices.Clone(a)
			down, _, _ := Shr(x, n)
			holds(t, "Shr", []Nat{down}, x)
		}
		for _, d := range []uint64{1, 10, maxWord} {
			x := slices.Clone(a)
			q, _, _ := DivWord(x, d)
			if !slices.Equal(x, a) {
				t.Fatal("DivWord changed an argument")
			}
			holds(t, "DivWord", []Nat{q}, x)
		}
		x := slices.Clone(a)
		s, _ := Digits(x, 10)
		if !slices.Equal(x, a) {
			t.Fatal("Digits changed its argument")
		}
		back, _ := Read(s, 10)
		holds(t, "Read", []Nat{back}, x)
	}
	for _, x := range []uint64{0, 1, maxWord} {
		holds(t, "Of", []Nat{Of(x)}, Of(x))
		for _, n := range []int{0, 1, 2, 100} {
			z, _ := Power(x, n)
			holds(t, "Power", []Nat{z})
		}
	}
	// Room behind an argument is not taken either.
	room := append(make(Nat, 0, 8), 5, 6)
	sum, _ := Add(room, Nat{maxWord, maxWord, maxWord})
	if all := room[:8]; !slices.Equal(all, Nat{5, 6, 0, 0, 0, 0, 0, 0}) || len(sum) != 4 {
		t.Errorf("Add wrote behind its argument: %v", all)
	}
}

func TestCmp(t *testing.T) {
	for _, c := range []struct {
		a, b Nat
		n    int
	}{
		{nil, nil, 0}, {nil, Nat{}, 0}, {nil, Nat{1}, -1}, {Nat{1}, nil, 1}, {Nat{5}, Nat{5}, 0}, {Nat{5}, Nat{6}, -1},
		{Nat{maxWord}, Nat{0, 1}, -1}, {Nat{0, 1}, Nat{maxWord}, 1}, {Nat{9, 1}, Nat{1, 2}, -1}, {Nat{1, 2}, Nat{9, 1}, 1}, {Nat{1, 2}, Nat{2, 2}, -1},
	} {
		if n, err := Cmp(c.a, c.b); n != c.n || err != nil {
			t.Errorf("Cmp(%v, %v) = %d, %v", c.a, c.b, n, err)
		}
	}
	for _, a := range numbers() {
		for _, b := range numbers() {
			if n, err := Cmp(a, b); n != great(a).Cmp(great(b)) || err != nil {
				t.Fatalf("Cmp(%v, %v) = %d, %v", a, b, n, err)
			}
		}
	}
}

func TestSumsAndProducts(t *testing.T) {
	for _, a := range numbers() {
		for _, b := range numbers() {
			x, y := great(a), great(b)
			sum, err := Add(a, b)
			if !is(sum, err, new(big.Int).Add(x, y)) {
				t.Fatalf("Add(%v, %v) = %v, %v", a, b, sum, err)
			}
			product, err := Mul(a, b)
			if !is(product, err, new(big.Int).Mul(x, y)) {
				t.Fatalf("Mul(%v, %v) = %v, %v", a, b, product, err)
			}
			rest, err := Sub(a, b)
			if x.Cmp(y) < 0 {
				if rest != nil || err != api.ErrBelow {
					t.Fatalf("Sub(%v, %v) = %v, %v", a, b, rest, err)
				}
			} else if !is(rest, err, new(big.Int).Sub(x, y)) {
				t.Fatalf("Sub(%v, %v) = %v, %v", a, b, rest, err)
			}
		}
	}
}

func TestSumsThatJustFit(t *testing.T) {
	worst := ones(api.MaxWords)
	almost := slices.Clone(worst)
	almost[0]--
	if z, err := Add(almost, Nat{1}); !slices.Equal(z, worst) || err != nil {
		t.Errorf("the greatest sum: %v", err)
	}
	if z, err := Add(Nat{1}, worst); z != nil || err != api.ErrBig {
		t.Errorf("a sum that just passes: %v, %v", z, err)
	}
	if z, err := Add(worst, nil); !slices.Equal(z, worst) || err != nil {
		t.Errorf("the greatest number and 0: %v", err)
	}
	if z, err := Sub(worst, worst); len(z) != 0 || err != nil {
		t.Errorf("the greatest number less itself: %v, %v", z, err)
	}
	if z, err := Sub(almost, worst); z != nil || err != api.ErrBelow {
		t.Errorf("one below 0: %v, %v", z, err)
	}
	if z, err := Sub(topOne(api.MaxWords), Nat{1}); !slices.Equal(z, ones(api.MaxWords-1)) || err != nil {
		t.Errorf("a borrow through all words: %v, %v", z, err)
	}
}

func TestProductsThatJustFit(t *testing.T) {
	if p, err := Mul(Nat{maxWord}, Nat{maxWord}); !slices.Equal(p, Nat{1, maxWord - 1}) || err != nil {
		t.Errorf("Mul of the greatest words: %v, %v", p, err)
	}
	if p, err := Mul(ones(64), ones(64)); len(p) != api.MaxWords || err != nil {
		t.Errorf("64 words by 64: %d words, %v", len(p), err)
	}
	// 129 words together, but the product needs 128 only.
	if p, err := Mul(topOne(65), topOne(64)); !slices.Equal(p, topOne(api.MaxWords)) || err != nil {
		t.Errorf("65 words by 64: %d words, %v", len(p), err)
	}
	if p, err := Mul(topOne(65), topOne(65)); p != nil || err != api.ErrBig {
		t.Errorf("2^8192: %v, %v", p, err)
	}
	if p, err := Mul(ones(api.MaxWords), Nat{2}); p != nil || err != api.ErrBig {
		t.Errorf("twice the greatest: %v, %v", p, err)
	}
	if p, err := Mul(ones(api.MaxWords), Nat{1}); !slices.Equal(p, ones(api.MaxWords)) || err != nil {
		t.Errorf("once the greatest: %v", err)
	}
	if p, err := Mul(ones(api.MaxWords), Nat{}); len(p) != 0 || err != nil {
		t.Errorf("the greatest by 0: %v, %v", p, err)
	}
	if p, err := Mul(ones(api.MaxWords), ones(api.MaxWords)); p != nil || err != api.ErrBig {
		t.Errorf("the greatest product: %v, %v", p, err)
	}
}

func TestDivWord(t *testing.T) {
	for _, a := range numbers() {
		if q, left, err := DivWord(a, 0); q != nil || left != 0 || err != api.ErrZero {
			t.Fatalf("DivWord(%v, 0) = %v, %d, %v", a, q, left, err)
		}
		for _, d := range []uint64{1, 2, 3, 10, 1 << 32, 1<<63 - 1, 1 << 63, 1<<63 + 1, maxWord - 1, maxWord} {
			want, rest := new(big.Int).QuoRem(great(a), new(big.Int).SetUint64(d), new(big.Int))
			q, left, err := DivWord(a, d)
			if !is(q, err, want) || left != rest.Uint64() {
				t.Fatalf("DivWord(%v, %d) = %v, %d, %v", a, d, q, left, err)
			}
		}
	}
}

func TestDivEdges(t *testing.T) {
	if q, r, err := Div(Nat{0, 1}, Nat{3}); !slices.Equal(q, Nat{6148914691236517205}) || !slices.Equal(r, Nat{1}) || err != nil {
		t.Errorf("Div(2^64, 3) = %v, %v, %v", q, r, err)
	}
	for _, a := range numbers() {
		for _, nought := range []Nat{nil, {}} {
			if q, r, err := Div(a, nought); q != nil || r != nil || err != api.ErrZero {
				t.Fatalf("Div(%v, 0) = %v, %v, %v", a, q, r, err)
			}
		}
	}
	worst := ones(api.MaxWords)
	if q, r, err := Div(worst, worst); !slices.Equal(q, Nat{1}) || len(r) != 0 || err != nil {
		t.Errorf("the greatest by itself: %v, %v, %v", q, r, err)
	}
	if q, r, err := Div(ones(127), worst); len(q) != 0 || !slices.Equal(r, ones(127)) || err != nil {
		t.Errorf("by a greater one: %v, %v, %v", q, r, err)
	}
	if q, r, err := Div(nil, worst); len(q) != 0 || len(r) != 0 || err != nil {
		t.Errorf("0 by the greatest: %v, %v, %v", q, r, err)
	}
}

func checkDiv(t *testing.T, a, b Nat) {
	t.Helper()
	quotient, rest := new(big.Int).QuoRem(great(a), great(b), new(big.Int))
	q, r, err := Div(a, b)
	if !is(q, err, quotient) || !is(r, err, rest) {
		t.Fatalf("Div(%v, %v) = %v, %v, %v", a, b, q, r, err)
	}
}

// Quotients whose guess is the word itself, one too great, two too great, and the greatest word.
func TestDivGuesses(t *testing.T) {
	for _, a := range numbers() {
		for _, b := range numbers() {
			if len(b) > 0 {
				checkDiv(t, a, b)
			}
		}
	}
	edges := []uint64{0, 1, 2, 1<<63 - 1, 1 << 63, 1<<63 + 1, maxWord - 1, maxWord}
	for _, x := range edges {
		for _, y := range edges {
			for _, z := range edges {
				for _, w := range edges {
					if z > 0 && w > 0 {
						checkDiv(t, Nat{y, x, z}, Nat{x, w})
						checkDiv(t, Nat{x, y, x, z}, Nat{y, w})
						checkDiv(t, Nat{0, y, x, z}, Nat{maxWord, y, w})
					}
				}
			}
		}
	}
	c := chance(2)
	for range 4000 {
		b := c.rough(1 + int(c.word()%6))
		checkDiv(t, c.rough(len(b)+int(c.word()%5)), b)
		// Just below, at and just above a multiple, where the last word of the quotient turns.
		q := c.rough(1 + int(c.word()%4))
		multiple := new(big.Int).Mul(great(b), great(q))
		checkDiv(t, of(multiple), b)
		checkDiv(t, of(new(big.Int).Sub(multiple, big.NewInt(1))), b)
		checkDiv(t, of(new(big.Int).Add(multiple, big.NewInt(1))), b)
	}
}

// Every stretch of a shift: within a word, at its edges, at the edges of all words, past them, and where a sum would wrap round.
var shifts = []int{0, 1, 2, 31, 32, 33, 62, 63, 64, 65, 66, 100, 127, 128, 129, 1000, 4095, 4096, 8064, 8126, 8127, 8128, 8190, 8191, 8192, 8193, 1 << 20, 1 << 40, math.MaxInt - 64, math.MaxInt}

func TestShifts(t *testing.T) {
	for _, a := range numbers() {
		for _, n := range shifts {
			checkShl(t, a, n)
			checkShr(t, a, n)
		}
		for _, n := range []int{-1, -64, math.MinInt} {
			if z, err := Shl(a, n); z != nil || err != api.ErrArg {
				t.Fatalf("Shl(%v, %d) = %v, %v", a, n, z, err)
			}
			if z, cut, err := Shr(a, n); z != nil || cut || err != api.ErrArg {
				t.Fatalf("Shr(%v, %d) = %v, %v, %v", a, n, z, cut, err)
			}
		}
	}
}

func checkShl(t *testing.T, a Nat, n int) {
	t.Helper()
	z, err := Shl(a, n)
	if len(a) > 0 && n > 64*api.MaxWords {
		if z != nil || err != api.ErrBig {
			t.Fatalf("Shl(%v, %d) = %v, %v", a, n, z, err)
		}
		return
	}
	if !is(z, err, new(big.Int).Lsh(great(a), uint(min(n, 64*api.MaxWords)))) {
		t.Fatalf("Shl(%v, %d) = %v, %v", a, n, z, err)
	}
}

func checkShr(t *testing.T, a Nat, n int) {
	t.Helper()
	z, cut, err := Shr(a, n)
	short := uint(min(n, 64*api.MaxWords))
	want := new(big.Int).Rsh(great(a), short)
	lost := new(big.Int).Lsh(want, short).Cmp(great(a)) != 0
	if !is(z, err, want) || cut != lost {
		t.Fatalf("Shr(%v, %d) = %v, %v, %v", a, n, z, cut, err)
	}
}

func TestShiftEdges(t *testing.T) {
	if z, cut, err := Shr(Nat{5}, 1); !slices.Equal(z, Nat{2}) || !cut || err != nil {
		t.Errorf("Shr(5, 1) = %v, %v, %v", z, cut, err)
	}
	if z, cut, err := Shr(Nat{0, 4}, 66); !slices.Equal(z, Nat{1}) || cut || err != nil {
		t.Errorf("Shr(2^66, 66) = %v, %v, %v", z, cut, err)
	}
	if z, cut, err := Shr(Nat{1}, math.MaxInt); len(z) != 0 || !cut || err != nil {
		t.Errorf("Shr(1, all) = %v, %v, %v", z, cut, err)
	}
	if z, cut, err := Shr(nil, math.MaxInt); len(z) != 0 || cut || err != nil {
		t.Errorf("Shr(0, all) = %v, %v, %v", z, cut, err)
	}
	if z, err := Shl(nil, math.MaxInt); len(z) != 0 || err != nil {
		t.Errorf("Shl(0, all) = %v, %v", z, err)
	}
	if z, err := Shl(Nat{1}, 64*api.MaxWords-1); len(z) != api.MaxWords || z[api.MaxWords-1] != 1<<63 || err != nil {
		t.Errorf("2^8191: %v, %v", z, err)
	}
	if z, err := Shl(Nat{1}, 64*api.MaxWords); z != nil || err != api.ErrBig {
		t.Errorf("2^8192: %v, %v", z, err)
	}
	if z, err := Shl(Nat{3}, 64*api.MaxWords-1); z != nil || err != api.ErrBig {
		t.Errorf("3 * 2^8191: %v, %v", z, err)
	}
	if z, err := Shl(ones(api.MaxWords), 0); !slices.Equal(z, ones(api.MaxWords)) || err != nil {
		t.Errorf("the greatest by 1: %v", err)
	}
}

func TestBitsAndZeros(t *testing.T) {
	for _, a := range numbers() {
		x := great(a)
		if n, err := Bits(a); n != x.BitLen() || err != nil {
			t.Fatalf("Bits(%v) = %d, %v", a, n, err)
		}
		if n, err := Zeros(a); n != int(x.TrailingZeroBits()) || err != nil {
			t.Fatalf("Zeros(%v) = %d, %v", a, n, err)
		}
	}
	for n := range 64 * api.MaxWords {
		a, err := Shl(Nat{1}, n)
		bits, _ := Bits(a)
		zeros, _ := Zeros(a)
		if bits != n+1 || zeros != n || err != nil {
			t.Fatalf("2^%d: %d bits, %d noughts, %v", n, bits, zeros, err)
		}
	}
}

func TestPower(t *testing.T) {
	if z, err := Power(10, 20); !slices.Equal(z, Nat{7766279631452241920, 5}) || err != nil {
		t.Errorf("Power(10, 20) = %v, %v", z, err)
	}
	for _, b := range []uint64{0, 1, 2, 3, 10, maxWord} {
		if z, err := Power(b, 0); !slices.Equal(z, Nat{1}) || err != nil {
			t.Errorf("Power(%d, 0) = %v, %v", b, z, err)
		}
		for _, n := range []int{-1, -64, math.MinInt} {
			if z, err := Power(b, n); z != nil || err != api.ErrArg {
				t.Errorf("Power(%d, %d) = %v, %v", b, n, z, err)
			}
		}
	}
	for _, n := range []int{1, 2, 63, 64, 65, 8192, 1 << 40, math.MaxInt} {
		if z, err := Power(0, n); len(z) != 0 || err != nil {
			t.Errorf("Power(0, %d) = %v, %v", n, z, err)
		}
		if z, err := Power(1, n); !slices.Equal(z, Nat{1}) || err != nil {
			t.Errorf("Power(1, %d) = %v, %v", n, z, err)
		}
	}
	for _, n := range []int{8192, 8193, 1 << 20, 1 << 40, math.MaxInt - 1, math.MaxInt} {
		if z, err := Power(2, n); z != nil || err != api.ErrBig {
			t.Errorf("Power(2, %d) = %v, %v", n, z, err)
		}
	}
}

// All powers of some words, up to the first ones that pass.
func TestPowersAgainstGreatNumbers(t *testing.T) {
	for _, b := range []uint64{2, 3, 5, 7, 10, 1<<32 - 1, 1 << 32, 1<<63 + 1, maxWord} {
		want := big.NewInt(1)
		for n := 0; want.BitLen() <= 64*api.MaxWords+128; n++ {
			if z, err := Power(b, n); !is(z, err, want) {
				t.Fatalf("Power(%d, %d) = %v, %v", b, n, z, err)
			}
			want.Mul(want, new(big.Int).SetUint64(b))
		}
	}
}

func TestDigits(t *testing.T) {
	for _, c := range []struct {
		a    Nat
		base int
		text string
	}{
		{nil, 2, "0"}, {Nat{}, 10, "0"}, {nil, 36, "0"}, {Nat{1}, 2, "1"}, {Nat{255}, 16, "ff"}, {Nat{35}, 36, "z"}, {Nat{36}, 36, "10"},
		{Nat{10}, 10, "10"}, {Nat{maxWord}, 10, "18446744073709551615"}, {Nat{0, 1}, 10, "18446744073709551616"}, {Nat{7766279631452241920, 5}, 10, "100000000000000000000"},
		{ones(api.MaxWords), 2, strings.Repeat("1", 64*api.MaxWords)}, {ones(api.MaxWords), 16, strings.Repeat("f", 16*api.MaxWords)},
	} {
		if s, err := Digits(c.a, c.base); s != c.text || err != nil {
			t.Errorf("Digits(%v, %d) = %q, %v", c.a, c.base, s, err)
		}
	}
	for _, base := range []int{math.MinInt, -2, -1, 0, 1, 37, 62, math.MaxInt} {
		for _, a := range []Nat{nil, {5}, ones(api.MaxWords)} {
			if s, err := Digits(a, base); s != "" || err != api.ErrBase {
				t.Errorf("Digits in base %d: %q, %v", base, s, err)
			}
		}
	}
}

func TestDigitsAgainstGreatNumbers(t *testing.T) {
	for _, a := range numbers() {
		for base := 2; base <= 36; base++ {
			s, err := Digits(a, base)
			if s != great(a).Text(base) || err != nil {
				t.Fatalf("Digits(%v, %d) = %q, %v", a, base, s, err)
			}
			for _, text := range []string{s, strings.ToUpper(s), "000" + s, strings.Repeat("0", 9000) + s} {
				if back, err := Read(text, base); !slices.Equal(back, a) || err != nil {
					t.Fatalf("Read(%q, %d) = %v, %v", text, base, back, err)
				}
			}
		}
	}
	// The powers of a base, where words of digits are full of noughts.
	for base := 2; base <= 36; base++ {
		for n := range 200 {
			want := "1" + strings.Repeat("0", n)
			a, _ := Power(uint64(base), n)
			if s, err := Digits(a, base); s != want || err != nil {
				t.Fatalf("Digits of %d^%d: %q, %v", base, n, s, err)
			}
			if back, err := Read(want, base); !slices.Equal(back, a) || err != nil {
				t.Fatalf("Read of %d^%d: %v, %v", base, n, back, err)
			}
		}
	}
}

func TestReadEdges(t *testing.T) {
	long := strings.Repeat("1", 64*api.MaxWords)
	for _, c := range []struct {
		s    string
		base int
		a    Nat
	}{
		{"0", 2, nil}, {"0", 36, nil}, {"00000", 10, nil}, {strings.Repeat("0", 1<<20), 10, nil}, {strings.Repeat("0", 1<<20) + "7", 10, Nat{7}},
		{"0100000000000000000000", 10, Nat{7766279631452241920, 5}}, {"Ff", 16, Nat{255}}, {"zZ", 36, Nat{35*36 + 35}}, {"aA", 11, Nat{120}},
		{long, 2, ones(api.MaxWords)}, {"0" + long, 2, ones(api.MaxWords)}, {strings.Repeat("F", 16*api.MaxWords), 16, ones(api.MaxWords)},
	} {
		if a, err := Read(c.s, c.base); !slices.Equal(a, c.a) || err != nil {
			t.Errorf("Read(%.40q, %d) = %v, %v", c.s, c.base, a, err)
		}
	}
}

func TestReadRefuses(t *testing.T) {
	long := strings.Repeat("1", 64*api.MaxWords)
	over := new(big.Int).Lsh(big.NewInt(1), 64*api.MaxWords)
	for _, c := range []struct {
		s    string
		base int
		err  error
	}{
		{"1", 1, api.ErrBase}, {"1", 0, api.ErrBase}, {"1", -10, api.ErrBase}, {"1", 37, api.ErrBase}, {"1", math.MaxInt, api.ErrBase}, {"1", math.MinInt, api.ErrBase},
		{"", 37, api.ErrBase}, {"?", 1, api.ErrBase}, {long + "1", 1, api.ErrBase},
		{"", 10, api.ErrDigits}, {"", 2, api.ErrDigits}, {"", 36, api.ErrDigits}, {"12a", 10, api.ErrDigits}, {"a12", 10, api.ErrDigits}, {"1 2", 10, api.ErrDigits},
		{"2", 2, api.ErrDigits}, {"8", 8, api.ErrDigits}, {"g", 16, api.ErrDigits}, {"G", 16, api.ErrDigits}, {"z", 35, api.ErrDigits}, {"Z", 35, api.ErrDigits},
		{"-1", 10, api.ErrDigits}, {"+1", 10, api.ErrDigits}, {"1_0", 10, api.ErrDigits}, {"0x1", 16, api.ErrDigits}, {" 1", 10, api.ErrDigits}, {"1\x00", 10, api.ErrDigits},
		{"/", 36, api.ErrDigits}, {":", 36, api.ErrDigits}, {"@", 36, api.ErrDigits}, {"[", 36, api.ErrDigits}, {"`", 36, api.ErrDigits}, {"{", 36, api.ErrDigits},
		{"\xff", 36, api.ErrDigits}, {"é", 36, api.ErrDigits}, {"٣", 10, api.ErrDigits}, {"0000_", 10, api.ErrDigits},
		{long + "1", 2, api.ErrBig}, {"1" + strings.Repeat("0", 64*api.MaxWords), 2, api.ErrBig}, {strings.Repeat("9", 1<<16), 10, api.ErrBig},
		{"1" + strings.Repeat("0", 16*api.MaxWords), 16, api.ErrBig}, {over.Text(10), 10, api.ErrBig}, {over.Text(36), 36, api.ErrBig},
		// A wrong byte is told ahead of too many words.
		{long + "12", 2, api.ErrDigits}, {strings.Repeat("9", 1<<16) + "a", 10, api.ErrDigits},
	} {
		if a, err := Read(c.s, c.base); a != nil || err != c.err {
			t.Errorf("Read(%.40q, %d) = %v, %v", c.s, c.base, a, err)
		}
	}
	worst := new(big.Int).Sub(over, big.NewInt(1))
	for base := 2; base <= 36; base++ {
		if a, err := Read(worst.Text(base), base); !slices.Equal(a, ones(api.MaxWords)) || err != nil {
			t.Errorf("the greatest number in base %d: %v, %v", base, a, err)
		}
		if a, err := Read(over.Text(base), base); a != nil || err != api.ErrBig {
			t.Errorf("one more than the greatest in base %d: %v, %v", base, a, err)
		}
	}
}

func TestDigitOfEveryByteAndBase(t *testing.T) {
	for base := 2; base <= 36; base++ {
		for c := range 256 {
			text := string([]byte{byte(c)})
			value := strings.Index("0123456789abcdefghijklmnopqrstuvwxyz", text)
			if 'A' <= c && c <= 'Z' {
				value = c - 'A' + 10
			}
			a, err := Read(text, base)
			if value >= 0 && value < base {
				if !slices.Equal(a, Of(uint64(value))) || err != nil {
					t.Fatalf("Read(%q, %d) = %v, %v", text, base, a, err)
				}
			} else if a != nil || err != api.ErrDigits {
				t.Fatalf("Read(%q, %d) = %v, %v", text, base, a, err)
			}
		}
	}
}

// must takes an answer that is not refused.
func must(t *testing.T) func(a Nat, err error) Nat {
	return func(a Nat, err error) Nat {
		t.Helper()
		if err != nil || Valid(a) != nil {
			t.Fatalf("refused, or no number: %v, %v", a, err)
		}
		return a
	}
}

func same(t *testing.T, law string, a, b Nat) {
	t.Helper()
	if !slices.Equal(a, b) {
		t.Fatalf("%s: %v and %v", law, a, b)
	}
}

// NA5, said by the calls alone.
func TestRing(t *testing.T) {
	c, ok := chance(3), must(t)
	for range 500 {
		a, b, d := c.rough(int(c.word()%40)), c.rough(int(c.word()%40)), c.rough(int(c.word()%40))
		same(t, "a + b is b + a", ok(Add(a, b)), ok(Add(b, a)))
		same(t, "a b is b a", ok(Mul(a, b)), ok(Mul(b, a)))
		same(t, "(a + b) + d is a + (b + d)", ok(Add(ok(Add(a, b)), d)), ok(Add(a, ok(Add(b, d)))))
		same(t, "(a b) d is a (b d)", ok(Mul(ok(Mul(a, b)), d)), ok(Mul(a, ok(Mul(b, d)))))
		same(t, "a (b + d) is a b + a d", ok(Mul(a, ok(Add(b, d)))), ok(Add(ok(Mul(a, b)), ok(Mul(a, d)))))
		same(t, "(a + b) - b is a", ok(Sub(ok(Add(a, b)), b)), a)
		n := int(c.word() % 2000)
		same(t, "a shifted by n is a by 2^n", ok(Shl(a, n)), ok(Mul(a, ok(Power(2, n)))))
		base := 2 + int(c.word()%35)
		s, err := Digits(a, base)
		if err != nil {
			t.Fatal(err)
		}
		same(t, "digits read again", ok(Read(s, base)), a)
		if len(b) == 0 {
			continue
		}
		q, r, err := Div(a, b)
		if err != nil {
			t.Fatal(err)
		}
		same(t, "q b + r is a", ok(Add(ok(Mul(q, b)), r)), a)
		if n, err := Cmp(r, b); n != -1 || err != nil {
			t.Fatalf("the rest %v is not below %v", r, b)
		}
		single, left, err := DivWord(a, b[0]|1)
		if err != nil || left >= b[0]|1 {
			t.Fatalf("DivWord: %d, %v", left, err)
		}
		same(t, "q d + r is a", ok(Add(ok(Mul(single, Of(b[0]|1))), Of(left))), a)
	}
}
