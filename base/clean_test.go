package base

import (
	"numeral/api"
	"strings"
	"testing"
	"unsafe"
)

// cleanOf is what BS3 says, word by word; the base is one.
func cleanOf(s string, base int, prefixed bool) (string, bool) {
	digitAt := func(i int) bool { return i >= 0 && i < len(s) && isOf(s[i], base) }
	some := false
	for i := range len(s) {
		some = some || digitAt(i)
		if s[i] != '_' && !digitAt(i) {
			return "", false
		}
		if s[i] == '_' && !(digitAt(i+1) && (digitAt(i-1) || prefixed && i == 0)) {
			return "", false
		}
	}
	if !some {
		return "", false
	}
	return strings.ReplaceAll(s, "_", ""), true
}

func wantClean(t *testing.T, s string, base int, prefixed bool, want string, ok bool) {
	t.Helper()
	var wantErr error
	if !ok {
		wantErr = api.ErrSyntax
	}
	if got, err := Clean(s, base, prefixed); got != want || err != wantErr {
		t.Errorf("Clean(%.40q, %d, %t): %.40q, %v, want %.40q, %v", s, base, prefixed, got, err, want, wantErr)
	}
}

func TestBS3CleanTaken(t *testing.T) {
	for _, c := range []struct {
		s    string
		base int
		want string
	}{
		{"1_000", 10, "1000"}, {"0", 10, "0"}, {"0", 2, "0"}, {"1", 2, "1"}, {"000", 10, "000"}, {"0_0", 2, "00"},
		{"1_0_1", 2, "101"}, {"12_34_56", 10, "123456"}, {"1_2", 3, "12"}, {"7_7", 8, "77"},
		{"fF", 16, "fF"}, {"F_f", 16, "Ff"}, {"dead_BEEF", 16, "deadBEEF"}, {"aZ_zA", 36, "aZzA"}, {"y_Y", 35, "yY"}, {"9", 10, "9"},
		{"0_755", 8, "0755"}, {"0b1", 16, "0b1"}, {"0x1", 34, "0x1"}, {"0_b_1", 16, "0b1"},
	} {
		wantClean(t, c.s, c.base, false, c.want, true)
		wantClean(t, c.s, c.base, true, c.want, true)
	}
}

func TestBS3CleanAtTheBegin(t *testing.T) {
	for _, c := range []struct {
		s    string
		base int
		want string
	}{
		{"_1", 16, "1"}, {"_0", 2, "0"}, {"_1_0", 2, "10"}, {"_F", 16, "F"}, {"_f_F", 16, "fF"}, {"_z", 36, "z"}, {"_755", 8, "755"},
	} {
		wantClean(t, c.s, c.base, true, c.want, true)
		wantClean(t, c.s, c.base, false, "", false)
	}
}

func TestBS3CleanRefused(t *testing.T) {
	for _, c := range []struct {
		s    string
		base int
	}{
		{"", 2}, {"", 10}, {"", 36}, {"_", 10}, {"_", 36}, {"__", 10}, {"___", 16},
		{"1_", 10}, {"_1_", 10}, {"1_0_", 2}, {"1__0", 10}, {"__1", 10}, {"1__", 10}, {"1___0", 10}, {"1_0__1", 2},
		{"2", 2}, {"12", 2}, {"21", 2}, {"1_2", 2}, {"2_1", 2}, {"_2", 2}, {"8", 8}, {"a", 10}, {"A", 10}, {"1a", 10}, {"g", 16}, {"G", 16}, {"1_g", 16}, {"g_1", 16}, {"z", 35}, {"Z", 35},
		{"+1", 10}, {"-1", 10}, {"1.0", 10}, {" 1", 10}, {"1 ", 10}, {"1 0", 10}, {"1,000", 10}, {"1-0", 10}, {"0x1", 16}, {"0o7", 8}, {"0b1", 2}, {"1\n", 10}, {"\x001", 10},
		{"@", 36}, {"[", 36}, {"`", 36}, {"{", 36}, {"/", 36}, {":", 36}, {"^", 36},
		{"\xff", 36}, {"1\x80", 36}, {"\xb1", 36}, {"\xe11", 36}, {"1\xdf0", 36}, {"1\u0663", 36}, {"\uff11", 36}, {"\u00e9", 36}, {"1\u203f1", 36},
		{"x", 10}, {"xyz", 33}, {strings.Repeat("1_", 1<<15), 10}, {strings.Repeat("1_", 1<<15) + "_1", 10},
	} {
		wantClean(t, c.s, c.base, false, "", false)
		wantClean(t, c.s, c.base, true, "", false)
	}
}

func TestBS3CleanOfNoBase(t *testing.T) {
	for _, base := range noBases {
		for _, s := range []string{"", "0", "1_000", "_1", "_", "1__0", "1_", "x", "\xff", "0x1f"} {
			for _, prefixed := range []bool{false, true} {
				if got, err := Clean(s, base, prefixed); got != "" || err != api.ErrBase {
					t.Errorf("Clean(%q, %d, %t): %q, %v", s, base, prefixed, got, err)
				}
			}
		}
	}
}

func TestBS3EveryByteAndBase(t *testing.T) {
	eachBase(func(base int) {
		for i := range 256 {
			b := string([]byte{byte(i)})
			for _, s := range []string{b, "1" + b, b + "1", "1" + b + "0", "1_" + b, b + "_1", "_" + b, b + "_"} {
				for _, prefixed := range []bool{false, true} {
					want, ok := cleanOf(s, base, prefixed)
					wantClean(t, s, base, prefixed, want, ok)
				}
			}
		}
	})
}

// eachText does something for every text of at most so many of some bytes.
func eachText(bytes string, most int, do func(s string)) {
	do("")
	if most == 0 {
		return
	}
	for i := range len(bytes) {
		eachText(bytes, most-1, func(s string) { do(bytes[i:i+1] + s) })
	}
}

func TestBS3EveryShortText(t *testing.T) {
	for _, c := range []struct {
		bytes string
		base  int
	}{{"_1", 2}, {"_12", 2}, {"_0aA", 11}, {"_0aA", 10}, {"_fGz", 16}, {"_Zy.", 36}, {"_Zy", 35}} {
		eachText(c.bytes, 6, func(s string) {
			for _, prefixed := range []bool{false, true} {
				want, ok := cleanOf(s, c.base, prefixed)
				wantClean(t, s, c.base, prefixed, want, ok)
			}
		})
	}
}

func TestBS3CleanOfLongTexts(t *testing.T) {
	many := 1 << 18
	ones := strings.Repeat("1", many)
	wantClean(t, ones, 2, false, ones, true)
	wantClean(t, strings.Repeat("1_", many)+"1", 2, false, ones+"1", true)
	wantClean(t, strings.Repeat("_1", many), 2, true, ones, true)
	wantClean(t, strings.Repeat("_1", many), 2, false, "", false)
	wantClean(t, ones+"2", 2, false, "", false)
	wantClean(t, ones+"__1", 2, true, "", false)
	wantClean(t, strings.Repeat("_", many), 2, true, "", false)
}

func TestBS3CleanIsNewMemory(t *testing.T) {
	for _, s := range []string{"12345", "12_345", "_12345", strings.Repeat("7", 1000)} {
		got, err := Clean(s, 10, true)
		if err != nil {
			t.Fatalf("Clean(%q): %v", s, err)
		}
		from, at := uintptr(unsafe.Pointer(unsafe.StringData(s))), uintptr(unsafe.Pointer(unsafe.StringData(got)))
		if at >= from && at < from+uintptr(len(s)) {
			t.Errorf("Clean(%.20q) shares its argument's memory", s)
		}
	}
}

func TestBS5CleanAgain(t *testing.T) {
	eachBase(func(base int) {
		eachText("_1fZ", 4, func(s string) {
			for _, prefixed := range []bool{false, true} {
				once, err := Clean(s, base, prefixed)
				if !strings.Contains(s, "_") && err == nil && once != s {
					t.Fatalf("Clean(%q, %d, %t): %q", s, base, prefixed, once)
				}
				if err != nil {
					continue
				}
				for _, again := range []bool{false, true} {
					if twice, err := Clean(once, base, again); twice != once || err != nil {
						t.Fatalf("Clean(%q, %d, %t): %q; cleaned again: %q, %v", s, base, prefixed, once, twice, err)
					}
				}
			}
		})
	})
}
