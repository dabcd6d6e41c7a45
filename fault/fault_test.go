package fault

import (
	"errors"
	"fmt"
	"math"
	"numeral/api"
	"strings"
	"testing"
	"unsafe"
)

// numbers are all of api's errors.
var numbers = []api.Errno{
	api.ErrArg, api.ErrLong, api.ErrSyntax, api.ErrRange, api.ErrBitSize, api.ErrWidth, api.ErrBase, api.ErrPrecision, api.ErrLayout, api.ErrZero, api.ErrBig, api.ErrBelow, api.ErrDigits, api.ErrCall, api.ErrLine,
}

// others are numbers that are none of api's.
var others = []api.Errno{0, -1, -3, 11, 19, 22, 29, 31, 289, 292, 1 << 40, math.MaxInt, math.MinInt}

var (
	errOther = errors.New("of nobody")
	noFault  = (*Fault)(nil)
	noPlace  = (*Place)(nil)
)

// round is a stranger's link: it has a text of its own round what it wraps.
type round struct{ err error }

func (r round) Error() string { return "(" + r.err.Error() + ")" }
func (r round) Unwrap() error { return r.err }

// wild is a stranger's error that panics at whatever it is asked.
type wild struct{}

func (w *wild) Error() string { panic("no text") }
func (w *wild) Unwrap() error { panic("nothing wrapped") }

// bare is a stranger's error that can't be held against another one.
type bare []string

func (b bare) Error() string { return strings.Join(b, "+") }

// actor is a stranger's error that says by a method As what it is.
type actor struct {
	as      any
	willing bool
}

func (a actor) Error() string { return "actor" }
func (a actor) As(target any) bool {
	switch at := target.(type) {
	case *api.Errno:
		if n, ok := a.as.(api.Errno); ok {
			*at = n
			return a.willing
		}
	case **Fault:
		if f, ok := a.as.(*Fault); ok {
			*at = f
			return a.willing
		}
	case **Place:
		if p, ok := a.as.(*Place); ok {
			*at = p
			return a.willing
		}
	}
	return false
}

func wantText(t *testing.T, what string, err error, want string) {
	t.Helper()
	if got := err.Error(); got != want {
		t.Errorf("%s: %q, want %q", what, got, want)
	}
}

func TestFT1WrapOfNil(t *testing.T) {
	for _, c := range [][2]string{{"", ""}, {"Parse", "1x"}, {"", "1x"}, {"Parse", ""}} {
		if err := Wrap(c[0], c[1], nil); err != nil {
			t.Errorf("Wrap(%q, %q, nil): %#v", c[0], c[1], err)
		}
	}
	for _, n := range []int{0, 1, -1, math.MaxInt, math.MinInt} {
		if err := Line(n, nil); err != nil {
			t.Errorf("Line(%d, nil): %#v", n, err)
		}
	}
}

func TestFT1WrapFields(t *testing.T) {
	for _, err := range []error{api.ErrSyntax, api.Errno(0), api.Errno(-1), errOther, noFault, noPlace, &Fault{}, &Place{}, Wrap("a", "b", api.ErrArg), Line(3, api.ErrArg), round{errOther}, &wild{}} {
		for _, c := range [][2]string{{"", ""}, {"Parse", "1x"}, {"", "1x"}, {"Parse", ""}, {"a \"b\"\n", "\x00\xff\""}} {
			f, ok := Wrap(c[0], c[1], err).(*Fault)
			if !ok || f == nil || f.Call != c[0] || f.Text != c[1] || f.Err != err || f.Unwrap() != err {
				t.Errorf("Wrap(%q, %q, %#v): %#v", c[0], c[1], err, f)
			}
		}
		for _, n := range []int{0, 1, 4096, -1, math.MaxInt, math.MinInt} {
			p, ok := Line(n, err).(*Place)
			if !ok || p == nil || p.Line != n || p.Err != err || p.Unwrap() != err {
				t.Errorf("Line(%d, %#v): %#v", n, err, p)
			}
		}
	}
	f, ok := Wrap("a", "b", bare{"x", "y"}).(*Fault)
	if !ok || f.Err.Error() != "x+y" {
		t.Errorf("Wrap of what can't be compared: %#v", f)
	}
}

func TestFT1New(t *testing.T) {
	a, b := Wrap("a", "b", api.ErrArg).(*Fault), Wrap("a", "b", api.ErrArg).(*Fault)
	if a == b {
		t.Error("Wrap twice is one Fault")
	}
	p, q := Line(1, api.ErrArg).(*Place), Line(1, api.ErrArg).(*Place)
	if p == q {
		t.Error("Line twice is one Place")
	}
	a.Call, a.Text, a.Err, p.Line, p.Err = "c", "d", nil, 2, nil
	wantText(t, "the other Fault", b, `a "b": error 1`)
	wantText(t, "the other Place", q, `line 1: error 1`)
	inner := Wrap("a", "b", api.ErrArg)
	if outer := Wrap("a", "b", inner); outer == inner {
		t.Error("Wrap of a Fault is that Fault")
	}
	if outer := Line(1, q); outer == error(q) {
		t.Error("Line of a Place is that Place")
	}
}

func TestFT1Error(t *testing.T) {
	for _, c := range []struct {
		err  error
		want string
	}{
		{Wrap("Parse", "1x", api.ErrSyntax), `Parse "1x": error 3`},
		{Wrap("", "", api.ErrSyntax), ` "": error 3`},
		{Wrap("Parse", "", api.ErrCall), `Parse "": error 290`},
		{Wrap("", "1x", api.Errno(0)), ` "1x": error 0`},
		{Wrap("a b", "a b", api.Errno(-7)), `a b "a b": error -7`},
		{Wrap("\"\n\\", "\"\n\\", errOther), "\"\n\\ " + `"\"\x0a\\": of nobody`},
		{Wrap("\xff", "ä", errors.New("")), "\xff " + `"\xc3\xa4": `},
		{Line(7, api.ErrLine), `line 7: error 291`},
		{Line(0, errOther), `line 0: of nobody`},
		{Line(-1, api.ErrArg), `line -1: error 1`},
		{Line(math.MaxInt, api.ErrArg), `line 9223372036854775807: error 1`},
		{Line(math.MinInt, api.ErrArg), `line -9223372036854775808: error 1`},
		{Line(10, Wrap("Parse", "1x", api.ErrSyntax)), `line 10: Parse "1x": error 3`},
		{Wrap("Run", "p", Line(10, api.ErrSyntax)), `Run "p": line 10: error 3`},
		{Wrap("A", "b", Wrap("C", "d", Wrap("E", "\"", api.ErrZero))), `A "b": C "d": E "\"": error 10`},
		{Line(1, Line(2, Line(3, errOther))), `line 1: line 2: line 3: of nobody`},
		{Wrap("A", "b", round{Wrap("C", "d", api.ErrArg)}), `A "b": (C "d": error 1)`},
		{Line(1, bare{"x", "y"}), `line 1: x+y`},
		{Line(1, errors.Join(api.ErrArg, api.ErrLong)), "line 1: error 1\nerror 2"},
	} {
		wantText(t, fmt.Sprintf("%#v", c.err), c.err, c.want)
	}
}

func TestFT1NilErr(t *testing.T) {
	for _, c := range []struct {
		err  error
		want string
	}{
		{&Fault{}, ` "": `},
		{&Fault{Call: "A", Text: "b"}, `A "b": `},
		{&Place{}, `line 0: `},
		{&Place{Line: -5}, `line -5: `},
		{Wrap("A", "b", &Place{}), `A "b": line 0: `},
		{Line(2, &Fault{}), `line 2:  "": `},
	} {
		wantText(t, fmt.Sprintf("%#v", c.err), c.err, c.want)
	}
	if (&Fault{}).Unwrap() != nil || (&Place{}).Unwrap() != nil {
		t.Error("what has no Err wraps something")
	}
}

func TestFT1NilLinks(t *testing.T) {
	if noFault.Error() != "" || noFault.Unwrap() != nil || noPlace.Error() != "" || noPlace.Unwrap() != nil {
		t.Error("a nil link says or wraps something")
	}
	for _, c := range []struct {
		err  error
		want string
	}{
		{Wrap("A", "b", noFault), `A "b": `},
		{Wrap("A", "b", noPlace), `A "b": `},
		{Line(1, noFault), `line 1: `},
		{Line(1, noPlace), `line 1: `},
		{Line(1, Wrap("A", "b", Line(2, noPlace))), `line 1: A "b": line 2: `},
	} {
		if c.err == nil {
			t.Fatalf("a nil link is taken for no error, want %q", c.want)
		}
		wantText(t, fmt.Sprintf("%#v", c.err), c.err, c.want)
	}
}

// A stranger's nil pointer stands for all errors that panic.
func TestFT1Strangers(t *testing.T) {
	wantText(t, "a Fault round a wild one", Wrap("A", "b", (*wild)(nil)), `A "b": `)
	wantText(t, "a Place round a wild one", Line(3, &wild{}), `line 3: `)
	wantText(t, "a row round a wild one", Line(3, Wrap("A", "b", Line(4, &wild{}))), `line 3: A "b": line 4: `)
	wantText(t, "a row round a stranger round a wild one", Line(3, round{&wild{}}), `line 3: `)
}

func TestFT1NewMemory(t *testing.T) {
	call, text := strings.Repeat("C", 40), strings.Repeat("t", 40)
	err := Wrap(call, text, api.ErrArg)
	f := err.(*Fault)
	if unsafe.StringData(f.Call) == unsafe.StringData(call) || unsafe.StringData(f.Text) == unsafe.StringData(text) {
		t.Error("Wrap keeps an argument's memory")
	}
	if got, _ := Call(err); unsafe.StringData(got) == unsafe.StringData(f.Call) {
		t.Error("Call hands out the Fault's own memory")
	}
	if got, _ := Text(err); unsafe.StringData(got) == unsafe.StringData(f.Text) {
		t.Error("Text hands out the Fault's own memory")
	}
}

func TestFT1Changed(t *testing.T) {
	f := Wrap("A", "b", api.ErrArg).(*Fault)
	outer := Line(1, f)
	f.Call, f.Text, f.Err = "C", "d", api.ErrLong
	wantText(t, "a row whose link was changed", outer, `line 1: C "d": error 2`)
	if Why(outer) != api.ErrLong || errors.Is(outer, api.ErrArg) {
		t.Error("a row whose link was changed wraps what it did")
	}
}

// ends are what a row of links may stand on.
func ends() []error {
	list := []error{errOther, noFault, noPlace, &Fault{}, &Place{}, errors.New("error 3")}
	for _, n := range append(numbers, others...) {
		list = append(list, n)
	}
	return list
}

// rows are rows of n links round an error: of Faults, of Places, of both by turns, and of a stranger's between.
func rows(n int, end error) [][]error {
	list := make([][]error, 4)
	for kind := range list {
		err := end
		for i := range n {
			switch {
			case kind == 0, kind == 2 && i%2 == 0, kind == 3 && i%3 == 0:
				err = Wrap("Call", "text", err)
			case kind == 1, kind == 2, i%3 == 1:
				err = Line(i, err)
			default:
				err = round{err}
			}
			list[kind] = append(list[kind], err)
		}
	}
	return list
}

func TestFT4Number(t *testing.T) {
	for _, n := range []int{1, 2, 3, 10, 100} {
		for _, end := range ends() {
			number, _ := end.(api.Errno)
			for kind, row := range rows(n, end) {
				err := row[n-1]
				if got := Why(err); got != number {
					t.Errorf("row %d of %d links: Why %d, want %d", kind, n, got, number)
				}
				for _, other := range append(numbers, others...) {
					if errors.Is(err, other) != (end == error(other)) {
						t.Errorf("row %d of %d links round %v: errors.Is finds %d: %t", kind, n, end, other, end != error(other))
					}
				}
			}
		}
	}
}

func TestFT4Target(t *testing.T) {
	targets := append(ends(), nil, round{errOther}, Wrap("Call", "text", api.ErrArg), Line(0, api.ErrArg), &Fault{"Call", "text", api.ErrArg}, bare{"x"})
	for _, end := range ends() {
		for _, row := range rows(9, end) {
			for _, err := range append([]error{end}, row...) {
				wrap, line := Wrap("A", "b", err), Line(1, err)
				for _, target := range append(append(targets, err), row...) {
					want := errors.Is(err, target)
					if errors.Is(wrap, target) != want || errors.Is(line, target) != want {
						t.Errorf("errors.Is(link of %v, %v) is not %t", err, target, want)
					}
				}
				if !errors.Is(wrap, wrap) || !errors.Is(line, line) || errors.Is(wrap, line) || errors.Is(line, wrap) || errors.Is(wrap, Wrap("A", "b", err)) || errors.Is(line, Line(1, err)) || errors.Is(err, wrap) {
					t.Errorf("a link of %v is not itself alone", err)
				}
			}
		}
	}
	if wrap := Wrap("A", "b", bare{"x"}); errors.Is(wrap, bare{"x"}) || !errors.Is(wrap, wrap) {
		t.Error("errors.Is of what can't be compared")
	}
}

func TestFT4As(t *testing.T) {
	inner := Wrap("Inner", "in", bare{"x"})
	place := Line(5, inner)
	for _, row := range rows(7, place) {
		err := row[6]
		var b bare
		if !errors.As(err, &b) || b.Error() != "x" {
			t.Errorf("errors.As does not find the end of %v", err)
		}
		var r round
		if errors.As(err, &r) != strings.Contains(err.Error(), "(") {
			t.Errorf("errors.As does not find the stranger in %v", err)
		}
	}
	var f *Fault
	if row := rows(7, inner)[1]; !errors.As(row[6], &f) || f != inner {
		t.Error("errors.As does not find the Fault behind Places")
	}
	var p *Place
	if row := rows(7, place)[0]; !errors.As(row[6], &p) || p != place {
		t.Error("errors.As does not find the Place behind Faults")
	}
	var n api.Errno
	if errors.As(inner, &n) || errors.As(Wrap("A", "b", noFault), &n) || errors.As(Line(1, &Place{}), &n) {
		t.Error("errors.As finds a number where there is none")
	}
}

func TestFT4ManyLinks(t *testing.T) {
	const n = 3000
	for kind, row := range rows(n, api.ErrRange) {
		err := row[n-1]
		if !errors.Is(err, api.ErrRange) || errors.Is(err, api.ErrSyntax) || Why(err) != api.ErrRange {
			t.Errorf("row %d of many links: the number is not found", kind)
		}
	}
	want := strings.Repeat(`Call "text": `, n) + "error 4"
	wantText(t, "many Faults", rows(n, api.ErrRange)[0][n-1], want)
	deep := rows(1<<16-2, Wrap("Parse", "1x", api.ErrRange))[1]
	if call, ok := Call(deep[len(deep)-1]); call != "Parse" || !ok {
		t.Error("the Fault behind as many Places as may be is not found")
	}
}
