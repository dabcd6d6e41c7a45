package shortest

import (
	"testing"

	"numeral/api"
	"numeral/interval"
)

// digitsOf are a float's digits, where the call answers such.
func digitsOf(t *testing.T, float uint64, size int) api.Dec {
	t.Helper()
	d, err := Digits(float, size)
	if err != nil {
		t.Fatalf("Digits(%#x, %d): %v", float, size, err)
	}
	return d
}

// What is told lies in the float's interval, and is read as the float by the library, too.
func TestSH4ReadAgain(t *testing.T) {
	for _, f := range formats {
		f.everyKind(6000, func(float uint64) {
			d := digitsOf(t, float, f.size)
			if in, err := interval.In(d, float, f.size); !in || err != nil {
				t.Errorf("%s of %#x of %d does not lie there: %v, %v", told(d), float, f.size, in, err)
			}
			if again := f.read(d); again != float {
				t.Errorf("%s of %#x of %d is read as %#x", told(d), float, f.size, again)
			}
		})
	}
}

// A nought's digits are those of 0, which lies in its interval.
func TestSH4Noughts(t *testing.T) {
	for _, f := range formats {
		for _, nought := range f.signed(0) {
			if in, err := interval.In(digitsOf(t, nought, f.size), nought, f.size); !in || err != nil {
				t.Errorf("the digits of %#x of %d do not lie there: %v, %v", nought, f.size, in, err)
			}
		}
	}
}

// Layer 19 knows of no number with fewer digits, and no float has more than the most digits.
func TestSH4NoneShorter(t *testing.T) {
	for _, f := range formats {
		reached := false
		f.everyKind(6000, func(float uint64) {
			n := len(digitsOf(t, float, f.size).Digits)
			reached = reached || n == f.most
			if n < 1 || n > f.most {
				t.Errorf("%#x of %d: %d digits", float, f.size, n)
			}
			if n > 1 {
				if less, err := interval.Between(float, f.size, n-1); less || err != nil {
					t.Errorf("Between(%#x, %d, %d): %v, %v", float, f.size, n-1, less, err)
				}
			}
		})
		if !reached {
			t.Errorf("no float of %d has %d digits", f.size, f.most)
		}
	}
}

// Of all numbers with as many digits that lie there none is nearer, and of two as near the one that is told is even.
func TestSH4NoneNearer(t *testing.T) {
	for _, f := range formats {
		f.everyKind(1500, func(float uint64) {
			d := digitsOf(t, float, f.size)
			r := f.truth(float)
			answer, n := whole(d, places), len(d.Digits)
			for _, x := range r.list(n, 100) {
				order := r.far(x).Cmp(r.far(answer))
				if order < 0 || order == 0 && x.Cmp(answer) != 0 && !even(answer, n) {
					t.Errorf("%#x of %d: %s is nearer than %s", float, f.size, told(decimal(x, places)), told(d))
				}
			}
		})
	}
}

// With as many digits as the float's, Within tells these; with more what lies there, no farther off; with fewer nothing.
func TestSH4Within(t *testing.T) {
	for _, f := range formats {
		f.everyKind(200, func(float uint64) {
			d := digitsOf(t, float, f.size)
			r := f.truth(float)
			far := r.far(whole(d, places))
			for n := 1; n <= 17; n++ {
				if n <= len(d.Digits) {
					want, ok := api.Dec{}, n == len(d.Digits)
					if ok {
						want = d
					}
					wantWithin(t, float, f.size, n, want, ok, nil)
					continue
				}
				more, ok, err := Within(float, f.size, n)
				in, _ := interval.In(more, float, f.size)
				if !ok || !in || err != nil || len(more.Digits) > n {
					t.Errorf("Within(%#x, %d, %d): %s, %v, %v, lies there: %v", float, f.size, n, told(more), ok, err, in)
					continue
				}
				now := r.far(whole(more, places))
				if now.Cmp(far) > 0 {
					t.Errorf("Within(%#x, %d, %d): %s is farther off than with a digit less", float, f.size, n, told(more))
				}
				far = now
			}
		})
	}
}

// Simplest between the ends of a float's interval has as many digits as the float's, lies there, and is not above them.
func TestSH4Simplest(t *testing.T) {
	for _, f := range formats {
		f.everyKind(1000, func(float uint64) {
			low, high, closed, err := interval.Bounds(float, f.size)
			if err != nil {
				t.Fatal(err)
			}
			r := f.truth(float)
			list, n := r.fewest()
			wantSimplest(t, low, high, closed, decimal(list[0], places), nil)
			if count, err := Count(float, f.size); count != n || err != nil {
				t.Errorf("Count(%#x, %d): %d, %v, want %d", float, f.size, count, err, n)
			}
		})
	}
}
