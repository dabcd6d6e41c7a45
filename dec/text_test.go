package dec

import (
	"regexp"
	"strings"
	"testing"

	"numeral/api"
)

func TestText(t *testing.T) {
	for _, c := range []struct {
		d    api.Dec
		text string
	}{
		{dec("125", 1), "0.125e1"}, {api.Dec{}, "0"}, {dec("1", 0), "0.1e0"}, {dec("5", -323), "0.5e-323"}, {dec("17976", 309), "0.17976e309"},
		{cut("12", 0), "0.12e0+"}, {cut("120", -3), "0.120e-3+"}, {cut("1", maxPoint), "0.1e1099511627776+"}, {dec("1", maxPoint), "0.1e1099511627776"}, {dec("1", -maxPoint), "0.1e-1099511627776"},
		{dec(nines, -10), "0." + nines + "e-10"}, {cut("1"+zeros[1:], 100), "0.1" + zeros[1:] + "e100+"},
	} {
		if s := Text(c.d); s != c.text {
			t.Errorf("Text(%v) = %q", c.d, s)
		}
		if d, err := Read(c.text); d != c.d || err != nil {
			t.Errorf("Read(%q) = %v, %v", c.text, d, err)
		}
	}
	for _, d := range append(rights(), small()...) {
		if back, err := Read(Text(d)); back != d || err != nil {
			t.Fatalf("Read(%q) = %v, %v", Text(d), back, err)
		}
	}
}

func TestReadRefuses(t *testing.T) {
	for _, s := range []string{
		"", " ", "00", "0.", "0.e0", "0.e", "0.e1", "0.e0+", "0.+", "0+", "+", "-", "e", "e0", "-0", "+0", "0 ", " 0", "0e0", "0.0", "0.0e0", "0.0e0+",
		"1", "5", "0.1", "0.1+", "0.1e", "0.1e+", "0.1e-", "0.1e-+", ".1e0", "1e0", "1.1e0", "00.1e0", "-0.1e0", "+0.1e0", "0,1e0", "0.1E0", "0x.1e0", "0.0.1e0",
		// Noughts ahead and behind.
		"0.01e0", "0.01e0+", "0.10e0", "0.1" + zeros[1:] + "e0",
		// The point told otherwise.
		"0.1e+1", "0.1e+0", "0.1e00", "0.1e01", "0.1e-0", "0.1e-01", "0.1e001+", "0.1e--1", "0.1e+-1", "0.1e1_0", "0.1e0x1", "0.1e1.0", "0.1e1e1", "0.1e 1", "0.1e1 ", "0.1ee1",
		"0.1e1++", "0.1e1+ ", "0.1e1-", "+0.1e1+", "0.1+e1", "0.+1e1",
		// Past the limits.
		"0.1e1099511627777", "0.1e-1099511627777", "0.1e1099511627777+", "0.1e9223372036854775807", "0.1e9223372036854775808", "0.1e-9223372036854775809", "0.1e18446744073709551617", "0.1e" + nines,
		"0." + nines + "9e0", "0." + nines + "9e0+", "0." + strings.Repeat("1", 1<<16) + "e0",
		// Bytes that are no digits.
		"0.1a1e0", "0.ae0", "0.1 1e0", "0.-1e0", "0.1_1e0", "0./e0", "0.:e0", "0.1\x00e0", "0.\x01e0", "0.٣e0", "0.1e٣", "0.1e0\n", "\x000", "0\x00", "\xff", "NaN", "Inf",
	} {
		if d, err := Read(s); d != (api.Dec{}) || err != api.ErrSyntax {
			t.Errorf("Read(%.60q) = %v, %v", s, d, err)
		}
	}
}

// Of every text that comes of a number's by one byte or two, just those of the grammar are read.
func TestReadWhatIsNearANumbersText(t *testing.T) {
	grammar := regexp.MustCompile(`^(0|0\.[1-9]([0-9]*[1-9])?e(0|-?[1-9][0-9]*)|0\.[1-9][0-9]*e(0|-?[1-9][0-9]*)\+)$`)
	tried, taken := 0, 0
	try := func(s string) {
		tried++
		d, err := Read(s)
		if grammar.MatchString(s) {
			taken++
			if err != nil || Valid(d) != nil || Text(d) != s || d.Cut != strings.HasSuffix(s, "+") {
				t.Fatalf("Read(%q) = %v, %v", s, d, err)
			}
		} else if d != (api.Dec{}) || err != api.ErrSyntax {
			t.Fatalf("Read(%q) = %v, %v", s, d, err)
		}
	}
	for _, s := range []string{"0", "0.1e0", "0.125e1", "0.5e-12", "0.10e3+", "0.1e-4+"} {
		for i := range len(s) + 1 {
			try(s[:i])
			try(s[i:])
			for _, c := range "0159+-.eE x_\x00\xff" {
				try(s[:i] + string(c) + s[i:])
				if i < len(s) {
					once := s[:i] + string(c) + s[i+1:]
					try(once)
					for j := range len(once) {
						try(once[:j] + once[j+1:])
						try(once[:j] + "0" + once[j:])
						try(once[:j] + "+" + once[j:])
					}
				}
			}
		}
	}
	if taken < 100 || tried-taken < 100 {
		t.Errorf("%d texts tried, %d taken: too few of one kind", tried, taken)
	}
}
