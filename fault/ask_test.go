package fault

import (
	"errors"
	"math"
	"numeral/api"
	"testing"
)

func TestFT2Why(t *testing.T) {
	for i, c := range []struct {
		err  error
		want api.Errno
	}{
		{nil, 0},
		{errOther, 0},
		{api.ErrArg, api.ErrArg},
		{api.ErrLine, api.ErrLine},
		{api.Errno(0), 0},
		{api.Errno(-4), -4},
		{api.Errno(math.MinInt), math.MinInt},
		{Wrap("A", "b", api.Errno(77)), 77},
		{Wrap("A", "b", api.ErrBase), api.ErrBase},
		{Line(3, api.ErrBase), api.ErrBase},
		{Line(4, Wrap("A", "b", api.ErrBase)), api.ErrBase},
		{Wrap("A", "error 4", errOther), 0},
		{Line(4, errOther), 0},
		{noFault, 0},
		{noPlace, 0},
		{&Fault{}, 0},
		{&Place{Line: 4}, 0},
		{Wrap("A", "b", noFault), 0},
		{Line(1, noPlace), 0},
		{round{api.ErrZero}, api.ErrZero},
		{Wrap("A", "b", round{Line(3, api.ErrZero)}), api.ErrZero},
		{errors.Join(errOther, nil, api.ErrBig, api.ErrZero), api.ErrBig},
		{errors.Join(Wrap("A", "b", errOther), Line(2, api.ErrLong), api.ErrZero), api.ErrLong},
		{errors.Join(noFault, noPlace, api.ErrZero), api.ErrZero},
		{bare{"x"}, 0},
		{Wrap("A", "b", bare{"x"}), 0},
		{actor{api.ErrWidth, true}, api.ErrWidth},
		{Line(1, actor{api.ErrWidth, true}), api.ErrWidth},
		{Line(1, actor{api.ErrWidth, false}), 0},
		{&wild{}, 0},
		{Wrap("A", "b", (*wild)(nil)), 0},
		{errors.Join(api.ErrArg, &wild{}), api.ErrArg},
	} {
		if got := Why(c.err); got != c.want {
			t.Errorf("Why of row %d: %d, want %d", i, got, c.want)
		}
	}
	for _, n := range append(numbers, others...) {
		if Why(n) != n || Why(Wrap("A", "b", n)) != n || Why(Line(1, n)) != n {
			t.Errorf("Why of %d", n)
		}
	}
}

func TestFT2CallText(t *testing.T) {
	for i, c := range []struct {
		err        error
		call, text string
		ok         bool
	}{
		{nil, "", "", false},
		{errOther, "", "", false},
		{api.ErrArg, "", "", false},
		{Wrap("Parse", "1x", api.ErrSyntax), "Parse", "1x", true},
		{Wrap("Parse", "1x", errOther), "Parse", "1x", true},
		{Wrap("", "", api.ErrSyntax), "", "", true},
		{Wrap("", "b", api.ErrSyntax), "", "b", true},
		{Wrap("A", "", api.ErrSyntax), "A", "", true},
		{Wrap("A \"", "\x00\xff\n\"", api.ErrSyntax), "A \"", "\x00\xff\n\"", true},
		{&Fault{}, "", "", true},
		{&Fault{Call: "A", Text: "b"}, "A", "b", true},
		{noFault, "", "", false},
		{noPlace, "", "", false},
		{&Place{Line: 3}, "", "", false},
		{Line(3, api.ErrArg), "", "", false},
		{Line(3, Wrap("A", "b", api.ErrArg)), "A", "b", true},
		{Line(3, Line(4, Wrap("A", "b", Line(5, Wrap("C", "d", api.ErrArg))))), "A", "b", true},
		{Wrap("A", "b", Wrap("C", "d", api.ErrArg)), "A", "b", true},
		{Wrap("", "", Wrap("C", "d", api.ErrArg)), "", "", true},
		{Wrap("A", "b", noFault), "A", "b", true},
		{Line(3, noFault), "", "", false},
		{Line(3, noPlace), "", "", false},
		{round{Wrap("A", "b", api.ErrArg)}, "A", "b", true},
		{errors.Join(noFault, Wrap("A", "b", api.ErrArg)), "", "", false},
		{errors.Join(noPlace, api.ErrArg, Wrap("A", "b", api.ErrArg), Wrap("C", "d", api.ErrArg)), "A", "b", true},
		{actor{&Fault{"A", "b", nil}, true}, "A", "b", true},
		{actor{noFault, true}, "", "", false},
		{Line(3, actor{&Fault{"A", "b", nil}, false}), "", "", false},
		{&wild{}, "", "", false},
		{Line(3, (*wild)(nil)), "", "", false},
		{Wrap("A", "b", &wild{}), "A", "b", true},
	} {
		if call, ok := Call(c.err); call != c.call || ok != c.ok {
			t.Errorf("Call of row %d: %q, %t, want %q, %t", i, call, ok, c.call, c.ok)
		}
		if text, ok := Text(c.err); text != c.text || ok != c.ok {
			t.Errorf("Text of row %d: %q, %t, want %q, %t", i, text, ok, c.text, c.ok)
		}
	}
}

func TestFT2LineOf(t *testing.T) {
	for i, c := range []struct {
		err  error
		line int
		ok   bool
	}{
		{nil, 0, false},
		{errOther, 0, false},
		{api.ErrLine, 0, false},
		{Line(7, api.ErrSyntax), 7, true},
		{Line(0, api.ErrSyntax), 0, true},
		{Line(-1, errOther), -1, true},
		{Line(math.MaxInt, api.ErrSyntax), math.MaxInt, true},
		{Line(math.MinInt, api.ErrSyntax), math.MinInt, true},
		{&Place{}, 0, true},
		{&Place{Line: 9}, 9, true},
		{noPlace, 0, false},
		{noFault, 0, false},
		{&Fault{}, 0, false},
		{Wrap("line 3", "line 3", errors.New("line 3: x")), 0, false},
		{Wrap("A", "b", Line(3, api.ErrArg)), 3, true},
		{Wrap("A", "b", Wrap("C", "d", Line(3, Wrap("E", "f", Line(4, api.ErrArg))))), 3, true},
		{Line(3, Line(4, api.ErrArg)), 3, true},
		{Line(0, Line(4, api.ErrArg)), 0, true},
		{Line(3, noPlace), 3, true},
		{Wrap("A", "b", noPlace), 0, false},
		{Wrap("A", "b", noFault), 0, false},
		{round{Line(3, api.ErrArg)}, 3, true},
		{errors.Join(noPlace, Line(3, api.ErrArg)), 0, false},
		{errors.Join(noFault, api.ErrArg, Line(3, api.ErrArg), Line(4, api.ErrArg)), 3, true},
		{actor{&Place{Line: 8}, true}, 8, true},
		{actor{noPlace, true}, 0, false},
		{Wrap("A", "b", actor{&Place{Line: 8}, false}), 0, false},
		{&wild{}, 0, false},
		{Wrap("A", "b", (*wild)(nil)), 0, false},
		{Line(2, &wild{}), 2, true},
	} {
		if line, ok := LineOf(c.err); line != c.line || ok != c.ok {
			t.Errorf("LineOf of row %d: %d, %t, want %d, %t", i, line, ok, c.line, c.ok)
		}
	}
}
