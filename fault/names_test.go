package fault

import (
	"numeral/api"
	"strings"
	"testing"
)

// called are the names in the order of numbers.
var called = []string{"arg", "long", "syntax", "range", "size", "width", "base", "precision", "layout", "zero", "big", "below", "digits", "call", "line"}

func TestFT3Name(t *testing.T) {
	for i, e := range numbers {
		if got := Name(e); got != called[i] {
			t.Errorf("Name(%d): %q, want %q", e, got, called[i])
		}
	}
	for _, e := range others {
		if got := Name(e); got != "" {
			t.Errorf("Name(%d): %q, want none", e, got)
		}
	}
	named := 0
	for e := api.Errno(-400); e <= 400; e++ {
		name := Name(e)
		if name == "" {
			continue
		}
		named++
		if got, ok := Find(name); got != e || !ok {
			t.Errorf("Find(Name(%d)): %d, %t", e, got, ok)
		}
	}
	if named != len(numbers) {
		t.Errorf("%d numbers have a name, want %d", named, len(numbers))
	}
}

func TestFT3Find(t *testing.T) {
	for i, name := range called {
		if got, ok := Find(name); got != numbers[i] || !ok {
			t.Errorf("Find(%q): %d, %t, want %d", name, got, ok, numbers[i])
		}
		for _, wrong := range []string{" " + name, name + " ", name + "\n", "\x00" + name, strings.ToUpper(name), strings.ToUpper(name[:1]) + name[1:], "Err" + name, name[1:], name[:len(name)-1], name + name, Quote(name)} {
			wantNone(t, wrong)
		}
	}
	for _, wrong := range []string{"", " ", "error", "error 1", "1", "ErrArg", "bitsize", "bit size", "none", "\xff"} {
		wantNone(t, wrong)
	}
}

func wantNone(t *testing.T, name string) {
	t.Helper()
	if got, ok := Find(name); got != 0 || ok {
		t.Errorf("Find(%q): %d, %t, want none", name, got, ok)
	}
}
