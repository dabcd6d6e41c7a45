package layout

import (
	"strings"
	"testing"

	"numeral/api"
)

func TestLA1Table(t *testing.T) {
	for _, c := range []struct {
		layout     byte
		prec, most int
		places     bool
	}{
		{'e', -1, -1, false},
		{'e', 0, 1, false},
		{'e', 1, 2, false},
		{'e', 17, 18, false},
		{'e', 1099, 1100, false},
		{'e', 1100, 1101, false},
		{'E', -1, -1, false},
		{'E', 0, 1, false},
		{'E', 1, 2, false},
		{'E', 17, 18, false},
		{'E', 1100, 1101, false},
		{'f', -1, -1, false},
		{'f', 0, 0, true},
		{'f', 1, 1, true},
		{'f', 17, 17, true},
		{'f', 1099, 1099, true},
		{'f', 1100, 1100, true},
		{'g', -1, -1, false},
		{'g', 0, 1, false},
		{'g', 1, 1, false},
		{'g', 2, 2, false},
		{'g', 17, 17, false},
		{'g', 1100, 1100, false},
		{'G', -1, -1, false},
		{'G', 0, 1, false},
		{'G', 1, 1, false},
		{'G', 2, 2, false},
		{'G', 17, 17, false},
		{'G', 1100, 1100, false},
	} {
		wantAsks(t, c.layout, c.prec, c.most, c.places, nil)
	}
}

// every byte as a layout, with all precisions about those that may be.
func TestLA1EveryByteAndPrecision(t *testing.T) {
	precisions := oddPrecisions
	for prec := -30; prec <= api.MaxPrecision+30; prec++ {
		precisions = append(precisions, prec)
	}
	for layout := range 256 {
		for _, prec := range precisions {
			layout := byte(layout)
			switch {
			case strings.IndexByte(layouts, layout) < 0:
				wantAsks(t, layout, prec, 0, false, api.ErrLayout)
			case prec < -1 || prec > 1100:
				wantAsks(t, layout, prec, 0, false, api.ErrPrecision)
			case prec == -1:
				wantAsks(t, layout, prec, -1, false, nil)
			case layout == 'f':
				wantAsks(t, layout, prec, prec, true, nil)
			case layout == 'e' || layout == 'E':
				wantAsks(t, layout, prec, prec+1, false, nil)
			case prec == 0:
				wantAsks(t, layout, prec, 1, false, nil)
			default:
				wantAsks(t, layout, prec, prec, false, nil)
			}
		}
	}
}

// The layouts of other layers, and great letters of small layouts and the other way about, are none.
func TestLA1NoLayouts(t *testing.T) {
	for _, layout := range []byte("FbxXvdst 0-+.\x00\xff") {
		for _, prec := range append([]int{-1, 0, 1, 17, api.MaxPrecision}, oddPrecisions...) {
			wantAsks(t, layout, prec, 0, false, api.ErrLayout)
		}
	}
	for _, layout := range []byte(layouts) {
		for _, prec := range oddPrecisions {
			wantAsks(t, layout, prec, 0, false, api.ErrPrecision)
		}
	}
}

// What Asks tells is what Lay takes: so many digits or places, and not one more.
func TestLA1IsWhatLayTakes(t *testing.T) {
	c := chance(11)
	for _, layout := range []byte(layouts) {
		for prec := range api.MaxPrecision + 1 {
			most, places, err := Asks(layout, prec)
			if err != nil {
				t.Fatalf("Asks(%q, %d): %v", layout, prec, err)
			}
			if prec > 40 && prec%37 != 0 && most > 3 && (most < api.MaxDigits-3 || most > api.MaxDigits) {
				continue
			}
			for _, count := range []int{most, most + 1} {
				d := api.Dec{Digits: c.digits(min(max(count, 1), api.MaxDigits)), Point: c.within(-9, 9)}
				if places {
					d.Point = len(d.Digits) - count
				}
				if _, err := Lay(false, d, layout, prec); (err == nil) == refusedDigits(d, layout, prec) {
					t.Errorf("Lay(%s, %q, %d): %v, but Asks tells %d, %v", told(d), layout, prec, err, most, places)
				}
			}
		}
	}
}
