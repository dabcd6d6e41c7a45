package hexin

import (
	"math"
	"strconv"
	"strings"
	"testing"

	"numeral/api"
	"numeral/scan"
)

func TestHI2Named(t *testing.T) {
	for _, c := range []struct {
		p       api.Parts
		size    int
		want    uint64
		refused error
	}{
		{api.Parts{Kind: api.TextHex, Mant: 24, Exp: -7}, 64, 0x3fc8000000000000, nil},
		{api.Parts{Kind: api.TextHex, Mant: 24, Exp: -7}, 32, 0x3e400000, nil},
		{api.Parts{Kind: api.TextHex}, 64, 0, nil},
		{api.Parts{Kind: api.TextHex, Neg: true}, 64, 0x8000000000000000, nil},
		{api.Parts{Kind: api.TextHex, Neg: true}, 32, 0x80000000, nil},
		{api.Parts{Kind: api.TextHex, Neg: true, Mant: 1<<63 + 1<<10, Cut: true}, 64, 0xc3e0000000000001, nil},
		{api.Parts{Kind: api.TextHex, Neg: true, Mant: 1<<63 + 1<<10}, 64, 0xc3e0000000000000, nil},
		{api.Parts{Kind: api.TextHex, Mant: 1, Cut: true}, 64, 0, api.ErrArg},
		{api.Parts{Kind: api.TextHex, Mant: 1, Exp: 128}, 32, 0x7f800000, api.ErrRange},
		{api.Parts{Kind: api.TextHex, Mant: 1, Exp: api.MaxPoint, Neg: true, Cut: true}, 64, 0xfff0000000000000, api.ErrRange},
		{api.Parts{Kind: api.TextHex, Mant: 1, Exp: -api.MaxPoint, Neg: true, Cut: true}, 64, 0x8000000000000000, nil},
	} {
		wantOf(t, c.p, c.size, c.want, c.refused)
	}
}

// A hexadecimal's Dec is not looked at, be it one or not.
func TestHI2OtherFields(t *testing.T) {
	for _, d := range []api.Dec{{}, {Digits: "125", Point: 1}, {Digits: "x", Point: math.MinInt, Cut: true}} {
		p := api.Parts{Kind: api.TextHex, Mant: 3, Exp: -1, Dec: d}
		wantOf(t, p, 64, 0x3ff8000000000000, nil)
		p.Neg = true
		wantOf(t, p, 32, 0xbfc00000, nil)
	}
}

// Every other kind is refused, and so is what is none; but a size that is none comes first.
func TestHI2Errors(t *testing.T) {
	kinds := []int{0, api.TextDec, api.TextInf, api.TextNaN, 5, 6, -1, -2, 255, 256 + api.TextHex, 1<<32 + api.TextHex, api.TextHex - 1<<32, math.MinInt, math.MinInt + api.TextHex, math.MaxInt}
	for _, p := range []api.Parts{
		{},
		{Mant: 3, Exp: -1},
		{Neg: true, Mant: 1, Exp: 2000},
		{Neg: true, Mant: 1, Exp: -2000},
		{Mant: 1, Cut: true},
		{Mant: maxWord, Exp: math.MaxInt, Cut: true},
		{Dec: api.Dec{Digits: "15", Point: 1}},
	} {
		for _, kind := range kinds {
			p.Kind = kind
			for _, f := range formats {
				wantOf(t, p, f.size, 0, api.ErrArg)
			}
			for _, size := range noSizes {
				wantOf(t, p, size, 0, api.ErrBitSize)
			}
		}
		p.Kind = api.TextHex
		for _, size := range noSizes {
			wantOf(t, p, size, 0, api.ErrBitSize)
		}
	}
}

// wantText asks for what the library reads of a hexadecimal text.
func (f format) wantText(t *testing.T, s string) {
	t.Helper()
	p, err := scan.Scan(s)
	if err != nil {
		t.Fatalf("%q: %v", s, err)
	}
	want, refused := f.read(s), error(nil)
	if want&^(1<<(f.size-1)) == f.inf() {
		refused = api.ErrRange
	}
	if b, err := Of(p, f.size); b != want || err != refused {
		t.Errorf("%q of %d: %#x, %v, want %#x, %v", s, f.size, b, err, want, refused)
	}
}

func TestHI2Texts(t *testing.T) {
	for _, f := range formats {
		for _, s := range []string{
			"0x0p0", "-0x0p0", "0x.0p99999999999999999999", "-0x1p-99999999999999999999", "-0x1p99999999999999999999",
			"0x1.8p-3", "0X1.80P+0", "-0xffffffffffffffffp0", "0x1.fffffep127", "0x1.ffffffp127", "0x1.fffffefffffffffffffp127",
			"0x1.fffffffffffffp1023", "0x1.fffffffffffff8p1023", "0x1.fffffffffffff7ffffffffffp1023", "0x1p-1074", "0x1p-1075", "0x1.0000000000000000000000001p-1075",
			"0x1p-149", "-0x1p-150", "-0x1.00000000000000000000000001p-150", "0x1p-1022", "0x.fffffffffffff8p-1022", "0x.ffffffp-126",
			"0x1.00000000000008p0", "0x1.000000000000080000000000000000000000001p0", "0x1.00000000000007fffffffffffffffffp0",
			"0x1.000001p0", "0x1.0000010000000000000000001p0", "0x1.000000fffffffffffffffffffffp0",
		} {
			f.wantText(t, s)
		}
	}
}

// Long texts of both signs, digits behind the sixteenth among them, and floats about every edge.
func TestHI2ManyTexts(t *testing.T) {
	c := chance(5)
	for _, f := range formats {
		cut := 0
		for range 20000 {
			var s strings.Builder
			if c.word()%2 == 1 {
				s.WriteString("-")
			}
			s.WriteString("0x")
			s.WriteString(strconv.FormatUint(c.upTo(64), 16))
			s.WriteString(".")
			// Noughts and fs are what brings a number near to half way.
			for _, part := range []string{strings.Repeat("0", c.within(0, 20)), strings.Repeat("f", c.within(0, 20)), strconv.FormatUint(c.upTo(8), 16)} {
				s.WriteString(part)
			}
			s.WriteString("p" + strconv.Itoa(c.within(f.least-100, f.most+30)))
			f.wantText(t, s.String())
			if p, _ := scan.Scan(s.String()); p.Cut {
				cut++
			}
		}
		if cut < 1000 {
			t.Errorf("%d of the texts were cut", cut)
		}
	}
}
