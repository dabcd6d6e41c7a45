package fault

import (
	"fmt"
	"numeral/api"
	"regexp"
	"strings"
	"testing"
	"unsafe"
)

func TestFT3Quote(t *testing.T) {
	for _, c := range [][2]string{
		{"", `""`},
		{"1x", `"1x"`},
		{"a b", `"a b"`},
		{"\n", `"\x0a"`},
		{`"`, `"\""`},
		{`\`, `"\\"`},
		{`\"`, `"\\\""`},
		{`\x0a`, `"\\x0a"`},
		{"\x00\x1f\x20\x7e\x7f\x80\xff", `"\x00\x1f ~\x7f\x80\xff"`},
		{"äx", `"\xc3\xa4x"`},
		{"'`%", "\"'`%\""},
		{"\xab\xcd\xef", `"\xab\xcd\xef"`},
	} {
		if got := Quote(c[0]); got != c[1] {
			t.Errorf("Quote(%q): %s, want %s", c[0], got, c[1])
		}
	}
}

func TestFT3QuoteEveryByte(t *testing.T) {
	whole, quoted := "", ""
	for c := range 256 {
		s := string([]byte{byte(c)})
		want := s
		switch {
		case c == '"' || c == '\\':
			want = `\` + s
		case c < 32 || c > 126:
			want = fmt.Sprintf(`\x%02x`, c)
		}
		if got := Quote(s); got != `"`+want+`"` {
			t.Errorf("Quote of the byte %d: %s, want %s in quotes", c, got, want)
		}
		if got := Quote("a" + s + "b"); got != `"a`+want+`b"` {
			t.Errorf("Quote of the byte %d between others: %s", c, got)
		}
		whole, quoted = whole+s, quoted+want
	}
	if got := Quote(whole); got != `"`+quoted+`"` {
		t.Errorf("Quote of all bytes: %s", got)
	}
}

func wantUnquoted(t *testing.T, s, want string) {
	t.Helper()
	if got, err := Unquote(s); got != want || err != nil {
		t.Errorf("Unquote(%s): %q, %v, want %q", s, got, err, want)
	}
}

func wantRefused(t *testing.T, s string) {
	t.Helper()
	if got, err := Unquote(s); got != "" || err != api.ErrSyntax {
		t.Errorf("Unquote(%q): %q, %v, want ErrSyntax", s, got, err)
	}
}

func TestFT3Unquote(t *testing.T) {
	for _, c := range [][2]string{
		{`""`, ""}, {`"1x"`, "1x"}, {`" "`, " "}, {`"\x0a"`, "\n"}, {`"\""`, `"`}, {`"\\"`, `\`}, {`"\\\""`, `\"`}, {`"\\x0a"`, `\x0a`}, {`"\x00\x1f ~\x7f\x80\xff"`, "\x00\x1f ~\x7f\x80\xff"}, {`"\xabc"`, "\xabc"}, {`"\\\\"`, `\\`},
	} {
		wantUnquoted(t, c[0], c[1])
	}
}

func TestFT3UnquoteRefused(t *testing.T) {
	for _, s := range []string{
		``, `"`, `a`, `ab`, `"a`, `a"`, `'a'`, "`a`", ` "a"`, `"a" `, "\"a\"\n", `"a""b"`,
		`"""`, `"a"b"`, `""""`, `"""a"`,
		`"\"`, `"a\"`, `"\\\"`, `\"`, `"\`, `\`,
		`"\x"`, `"\x0"`, `"\xa"`, `"\x`, `"\x0`, `"\x0a`, `"\x\"`, `"\x0\"`, `"a\x0"`,
		`"\x0A"`, `"\xA0"`, `"\xFF"`, `"\xfF"`, `"\xFf"`, `"\x0g"`, `"\xg0"`, `"\x 0"`, `"\x0 "`, `"\x-1"`, `"\x+1"`, `"\x0x"`,
		`"\X0a"`, `"\x20"`, `"\x41"`, `"\x7e"`, `"\x22"`, `"\x5c"`, `"\x61"`, `"\x0a\x41"`,
		`"\n"`, `"\t"`, `"\a"`, `"\'"`, `"\0"`, `"\012"`, `"\u000a"`, `"\ "`, `"\x{0a}"`,
		"\"\n\"", "\"\x00\"", "\"\x1f\"", "\"\x7f\"", "\"\x80\"", "\"\xff\"", "\"ä\"", "\"a\tb\"", "\"\\\n\"", "\"\\\xff\"",
		"\x00\x00", "\xff\xff", "“a”",
	} {
		wantRefused(t, s)
	}
}

// told in its one way, each byte is taken; every other way is refused.
func TestFT3UnquoteEveryByte(t *testing.T) {
	for c := range 256 {
		s := string([]byte{byte(c)})
		for _, form := range []string{s, `\` + s, fmt.Sprintf(`\x%02x`, c), fmt.Sprintf(`\x%02X`, c), fmt.Sprintf(`\X%02x`, c)} {
			for _, round := range [][2]string{{"", ""}, {"a", "b"}, {`\\`, `\"`}} {
				told := `"` + round[0] + form + round[1] + `"`
				text := strings.ReplaceAll(round[0], `\\`, `\`) + s + strings.ReplaceAll(round[1], `\"`, `"`)
				if Quote(text) == told {
					wantUnquoted(t, told, text)
				} else if !wellQuoted.MatchString(told) {
					wantRefused(t, told)
				}
			}
		}
	}
}

// wellQuoted is the grammar of all quotes, told another way.
var wellQuoted = regexp.MustCompile(`^"(?:[ !#-\[\]-~]|\\["\\]|\\x(?:[01][0-9a-f]|7f|[89a-f][0-9a-f]))*"$`)

// every says all texts of at most n bytes out of an alphabet.
func every(n int, alphabet string, say func(string)) {
	var longer func(string)
	longer = func(s string) {
		say(s)
		if len(s) == n {
			return
		}
		for i := range len(alphabet) {
			longer(s + alphabet[i:i+1])
		}
	}
	longer("")
}

func TestFT3UnquoteEveryShortText(t *testing.T) {
	check := func(s string) {
		got, err := Unquote(s)
		if wellQuoted.MatchString(s) {
			if err != nil || Quote(got) != s {
				t.Fatalf("Unquote(%q): %q, %v", s, got, err)
			}
		} else if err != api.ErrSyntax || got != "" {
			t.Fatalf("Unquote(%q): %q, %v, want ErrSyntax", s, got, err)
		}
	}
	every(3, "\"\\x07fFag\n \x7f\xff", check)
	every(7, "\"\\x2fA", func(s string) { check(`"` + s + `"`) })
}

func TestFT4UnquoteOfQuote(t *testing.T) {
	check := func(s string) {
		if got, err := Unquote(Quote(s)); got != s || err != nil {
			t.Fatalf("Unquote(Quote(%q)): %q, %v", s, got, err)
		}
	}
	all := make([]byte, 256)
	for i := range all {
		all[i] = byte(i)
	}
	every(2, string(all), check)
	every(6, "\"\\x0a\n\xff", check)
	long := strings.Repeat(string(all), 4096)
	check(long)
	check(Quote(Quote(long)))
}

func TestFT3NewMemory(t *testing.T) {
	s := strings.Repeat("a", 40)
	quoted := Quote(s)
	back, _ := Unquote(quoted)
	if unsafe.StringData(back) == unsafe.StringData(quoted[1:]) || unsafe.StringData(quoted[1:]) == unsafe.StringData(s) {
		t.Error("Quote and Unquote hand out an argument's memory")
	}
}
