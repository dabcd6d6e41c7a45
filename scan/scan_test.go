package scan

import (
	"math/big"
	"regexp"
	"strings"
	"testing"

	"numeral/api"
)

// grammar is the chapter's, each of its kinds word by word, with the underscores that may stand there.
var grammar = regexp.MustCompile(`\A(?:` +
	`[+-]?[iI][nN][fF](?:[iI][nN][iI][tT][yY])?` +
	`|[nN][aA][nN]` +
	`|[+-]?(?:[0-9](?:_?[0-9])*(?:\.(?:[0-9](?:_?[0-9])*)?)?|\.[0-9](?:_?[0-9])*)(?:[eE][+-]?[0-9](?:_?[0-9])*)?` +
	`|[+-]?0[xX](?:_?[0-9a-fA-F](?:_?[0-9a-fA-F])*(?:\.(?:[0-9a-fA-F](?:_?[0-9a-fA-F])*)?)?|\.[0-9a-fA-F](?:_?[0-9a-fA-F])*)[pP][+-]?[0-9](?:_?[0-9])*` +
	`)\z`)

// partsOf are the parts of a text of the grammar, by the library's great numbers.
func partsOf(s string) api.Parts {
	neg := s[0] == '-'
	s = strings.ToLower(strings.ReplaceAll(strings.TrimLeft(s, "+-"), "_", ""))
	switch {
	case s[0] == 'i':
		return api.Parts{Neg: neg, Kind: api.TextInf}
	case s[0] == 'n':
		return api.Parts{Neg: neg, Kind: api.TextNaN}
	case strings.HasPrefix(s, "0x"):
		rows, exp, _ := strings.Cut(s[2:], "p")
		whole, part, _ := strings.Cut(rows, ".")
		p := hexOf(whole, part, exponentOf(exp))
		p.Neg = neg
		return p
	}
	rows, exp, _ := strings.Cut(s, "e")
	whole, part, _ := strings.Cut(rows, ".")
	return api.Parts{Neg: neg, Kind: api.TextDec, Dec: decOf(whole, part, exponentOf(exp))}
}

// exponentOf is an exponent's number: at most MaxPoint by magnitude.
func exponentOf(s string) *big.Int {
	if s == "" {
		return new(big.Int)
	}
	return within(number(s, 10))
}

func number(s string, base int) *big.Int {
	n, ok := new(big.Int).SetString(s, base)
	if !ok {
		panic("no number: " + s)
	}
	return n
}

// within is a number, or the one of -MaxPoint and MaxPoint that is next to it.
func within(n *big.Int) *big.Int {
	most := big.NewInt(api.MaxPoint)
	if n.CmpAbs(most) <= 0 {
		return n
	}
	if n.Sign() < 0 {
		return most.Neg(most)
	}
	return most
}

// hexOf is what SN1 says of a hexadecimal.
func hexOf(whole, part string, exp *big.Int) api.Parts {
	p := api.Parts{Kind: api.TextHex}
	n := number("0"+whole+part, 16)
	if n.Sign() == 0 {
		return p
	}
	further := max(len(n.Text(16))-16, 0)
	mant := new(big.Int).Rsh(n, uint(4*further))
	p.Mant = mant.Uint64()
	p.Cut = new(big.Int).Lsh(mant, uint(4*further)).Cmp(n) != 0
	p.Exp = int(within(new(big.Int).Add(exp, big.NewInt(int64(4*(further-len(part)))))).Int64())
	return p
}

// prefixOf is how long the longest begin of a text is that is in the grammar; -1, if there is none.
func prefixOf(s string) int {
	for n := len(s); n >= 0; n-- {
		if grammar.MatchString(s[:n]) {
			return n
		}
	}
	return -1
}

// check holds Scan, Prefix and Valid of a text against what SN1 and SN3 say, word by word.
func check(t *testing.T, s string) {
	t.Helper()
	checkBegin(t, s, prefixOf(s))
}

// checkBegin does so where the longest begin is known.
func checkBegin(t *testing.T, s string, n int) {
	t.Helper()
	if n < 0 {
		wantPrefix(t, s, api.Parts{}, 0, api.ErrSyntax)
	} else {
		wantPrefix(t, s, partsOf(s[:n]), n, nil)
	}
	if n == len(s) {
		wantScan(t, s, partsOf(s))
	} else {
		wantRefused(t, s)
	}
}

func wantScan(t *testing.T, s string, want api.Parts) {
	t.Helper()
	if p, err := Scan(s); p != want || err != nil {
		t.Errorf("Scan(%.60q): %+v, %v, want %+v", s, p, err, want)
	}
	if !Valid(s) {
		t.Errorf("Valid(%.60q): false", s)
	}
}

func wantRefused(t *testing.T, s string) {
	t.Helper()
	// The number itself is answered, and nothing beside it.
	if p, err := Scan(s); p != (api.Parts{}) || err != error(api.ErrSyntax) {
		t.Errorf("Scan(%.60q): %+v, %v, want ErrSyntax alone", s, p, err)
	}
	if Valid(s) {
		t.Errorf("Valid(%.60q): true", s)
	}
}

func wantPrefix(t *testing.T, s string, want api.Parts, length int, number error) {
	t.Helper()
	if p, n, err := Prefix(s); p != want || n != length || err != number {
		t.Errorf("Prefix(%.60q): %+v, %d, %v, want %+v, %d, %v", s, p, n, err, want, length, number)
	}
}

func decimal(neg bool, digits string, point int) api.Parts {
	return api.Parts{Neg: neg, Kind: api.TextDec, Dec: api.Dec{Digits: digits, Point: point}}
}

func TestSN1Decimals(t *testing.T) {
	for s, want := range map[string]api.Parts{
		"-12.50e3": decimal(true, "125", 5), "12.5": decimal(false, "125", 2), "+12.5": decimal(false, "125", 2), "0": decimal(false, "", 0), "-0": decimal(true, "", 0), "+0": decimal(false, "", 0), "-0.0e7": decimal(true, "", 0), "00": decimal(false, "", 0), "0e999999999999999999999": decimal(false, "", 0),
		"1": decimal(false, "1", 1), "10": decimal(false, "1", 2), "007": decimal(false, "7", 1), ".5": decimal(false, "5", 0), "5.": decimal(false, "5", 1), "-.5": decimal(true, "5", 0), "+5.": decimal(false, "5", 1), "0.005": decimal(false, "5", -2), ".0050": decimal(false, "5", -2), "5.e2": decimal(false, "5", 3), ".5e2": decimal(false, "5", 2), "1.0": decimal(false, "1", 1), "100.001": decimal(false, "100001", 3),
		"1e5": decimal(false, "1", 6), "1E5": decimal(false, "1", 6), "1e+5": decimal(false, "1", 6), "1e-5": decimal(false, "1", -4), "1E-05": decimal(false, "1", -4), "1e0005": decimal(false, "1", 6), "1e0": decimal(false, "1", 1), "1e-0": decimal(false, "1", 1), "1e+0": decimal(false, "1", 1),
		"1_0.2_5e1_0": decimal(false, "1025", 12), "1_2_3": decimal(false, "123", 3), ".1_2": decimal(false, "12", 0), "1e1_2": decimal(false, "1", 13), "0_0": decimal(false, "", 0), "0_1": decimal(false, "1", 1),
	} {
		wantScan(t, s, want)
	}
}

func TestSN1Hexadecimals(t *testing.T) {
	hex := func(neg bool, mant uint64, exp int, cut bool) api.Parts {
		return api.Parts{Neg: neg, Kind: api.TextHex, Mant: mant, Exp: exp, Cut: cut}
	}
	const word, noughts = "123456789abcdef0", "0000000000000000000"
	for s, want := range map[string]api.Parts{
		"0x1.8p-3": hex(false, 24, -7, false), "0x1.80p0": hex(false, 384, -8, false), "-0X1P0": hex(true, 1, 0, false), "+0xAbCdEfp+5": hex(false, 0xabcdef, 5, false), "0x.8p0": hex(false, 8, -4, false), "0x8.p0": hex(false, 8, 0, false), "0x_1p0": hex(false, 1, 0, false), "0x1_2.3_4p1_0": hex(false, 0x1234, 2, false), "0xep1": hex(false, 14, 1, false), "0x1e5p0": hex(false, 0x1e5, 0, false),
		"0x10p0": hex(false, 16, 0, false), "0x0.001p0": hex(false, 1, -12, false), "0x000.0010p3": hex(false, 16, -13, false), "0x" + noughts + "1p0": hex(false, 1, 0, false),
		"0x0p0": hex(false, 0, 0, false), "-0x0.0p99": hex(true, 0, 0, false), "0x" + noughts + "." + noughts + "p-99": hex(false, 0, 0, false), "0x0p9999999999999999": hex(false, 0, 0, false),
		"0x" + word + "p0": hex(false, 0x123456789abcdef0, 0, false), "0x" + word + "0p0": hex(false, 0x123456789abcdef0, 4, false), "0x" + word + "1p0": hex(false, 0x123456789abcdef0, 4, true), "0x" + word[1:] + "p0": hex(false, 0x23456789abcdef0, 0, false), "0xffffffffffffffffp0": hex(false, 1<<64-1, 0, false), "0xfffffffffffffffffp0": hex(false, 1<<64-1, 4, true),
		"0x" + word + noughts + "p1": hex(false, 0x123456789abcdef0, 77, false), "0x" + word + noughts + "1p1": hex(false, 0x123456789abcdef0, 81, true), "0x" + word + noughts + ".1p1": hex(false, 0x123456789abcdef0, 77, true), "0x" + word + noughts + ".0p1": hex(false, 0x123456789abcdef0, 77, false),
		"0x" + word + ".0p0": hex(false, 0x123456789abcdef0, 0, false), "0x" + word + ".8p0": hex(false, 0x123456789abcdef0, 0, true), "0x" + word[:15] + ".80p0": hex(false, 0x123456789abcdef8, -4, false), "0x" + word[:15] + ".81p0": hex(false, 0x123456789abcdef8, -4, true), "0x1." + word + "p0": hex(false, 0x1123456789abcdef, -60, false), "0x1." + word + "1p0": hex(false, 0x1123456789abcdef, -60, true),
		"0x." + noughts + word + "p0": hex(false, 0x123456789abcdef0, -140, false), "0x0." + noughts + word + "0p0": hex(false, 0x123456789abcdef0, -140, false), "0x0." + noughts + word + "01p0": hex(false, 0x123456789abcdef0, -140, true), "0x" + noughts + "." + word[1:] + "p0": hex(false, 0x23456789abcdef0, -60, false),
	} {
		wantScan(t, s, want)
	}
}

func TestSN1HexadecimalsAtTheBounds(t *testing.T) {
	const most = "1099511627776"
	const digits = "123456789abcdef01"
	for s, want := range map[string]int{
		"0x1p1099511627775": 1<<40 - 1, "0x1p" + most: 1 << 40, "0x1p1099511627777": 1 << 40, "0x1p+0" + most: 1 << 40, "0x1p-1099511627775": 1 - 1<<40, "0x1p-" + most: -1 << 40, "0x1p-1099511627777": -1 << 40, "0x1p-" + strings.Repeat("9", 500): -1 << 40, "0x1p" + strings.Repeat("9", 500): 1 << 40, "0x1p-18446744073709551617": -1 << 40, "0x1p9223372036854775808": 1 << 40,
		"0x" + digits + "p" + most: 1 << 40, "0x" + digits + "p1099511627771": 1<<40 - 1, "0x" + digits + "p1099511627772": 1 << 40, "0x" + digits + "p1099511627773": 1 << 40, "0x" + digits + "p-" + most: 4 - 1<<40, "0x" + digits + "p-9" + most: 4 - 1<<40,
		"0x.1p-" + most: -1 << 40, "0x.1p-1099511627771": 1 - 1<<40, "0x.1p-1099511627772": -1 << 40, "0x.1p-1099511627773": -1 << 40, "0x.1p" + most: 1<<40 - 4, "0x.1p9" + most: 1<<40 - 4,
	} {
		p, err := Scan(s)
		if p.Exp != want || err != nil || p.Mant == 0 {
			t.Errorf("Scan(%.60q): %+v, %v, want the Exp %d", s, p, err, want)
		}
		check(t, s)
	}
}

func TestSN1Words(t *testing.T) {
	for _, sign := range []string{"", "+", "-"} {
		for _, s := range []string{"inf", "INF", "Inf", "iNf", "infinity", "INFINITY", "Infinity", "iNfInItY"} {
			wantScan(t, sign+s, api.Parts{Neg: sign == "-", Kind: api.TextInf})
		}
	}
	for _, s := range []string{"nan", "NAN", "NaN", "nAn"} {
		wantScan(t, s, api.Parts{Kind: api.TextNaN})
		for _, sign := range []string{"+", "-"} {
			wantRefused(t, sign+s)
			wantPrefix(t, sign+s, api.Parts{}, 0, api.ErrSyntax)
		}
	}
	for _, word := range []string{"infinity", "inf", "nan", "Infinity", "NaN"} {
		for _, sign := range []string{"", "+", "-", "++", "-+"} {
			for n := range len(word) + 1 {
				check(t, sign+word[:n])
				check(t, sign+word[n:])
				check(t, sign+word[:n]+"_"+word[n:])
				check(t, sign+word[:n]+"i"+word[n:])
				check(t, sign+word[:n]+word[min(n+1, len(word)):])
			}
			check(t, sign+word+word)
		}
	}
}

func TestSN1Refused(t *testing.T) {
	for _, s := range []string{
		"", "+", "-", "++", "--", "+-", "--1", "++1", "+-1", "-+1", "1-", "1+", "- 1", ".", "+.", "-.", "..", "1..2", "1.2.3", ".1.", "..1", "1.-2", "1,5",
		"e", "E", "e5", ".e5", "+e5", "1e", "1E", "1.e", ".5e", "1e+", "1e-", "1e++5", "1e--5", "1e+-5", "1e5.", "1e.5", "1e5e5", "1ee5", "1e5+", "1p5", "1.5p5", "1f", "1d5", "1e5f",
		"0x", "0X", "0x.", "0x.p0", "0x.p", "0xp0", "0xp", "0x1", "0x1.8", "0x1.", "0x.8", "0x1p", "0x1p+", "0x1p-", "0x1p++1", "0x1p.5", "0x1p1.", "0x1e5", "0x1e+5", "0x1E5", "0x1pa", "0x1p0x1", "0x1p1p1", "0x1pp1", "0xg.p0", "0x1gp0", "x1p0", "00x1p0", "1x1p0", "0b1p0", "0o1p0", "0b1", "0o7", "0x-1p0", "0x+1p0", "0x0x1p0", "0x1.1.1p0", "0x..1p0",
		"_", "_1", "1_", "1__0", "+_1", "-_1", "_+1", "1_.5", "1._5", "1.5_", "_.5", "._5", "1_e5", "1e_5", "1e5_", "1e+_5", "1e_+5", "1e5__0", "1.0__5", "1._e5", ".5_e1",
		"0_x1p0", "0x_", "0x__1p0", "0x_.8p0", "0x._8p0", "0x1_.8p0", "0x1._8p0", "0x1.8_p0", "0x1_p0", "0x1p_0", "0x1p0_", "0x1p+_0", "0x1__2p0", "0x1.2__3p0", "_0x1p0", "0x_p0", "0x1p0__1", "0x_1_p0",
		" 1", "1 ", "1 0", "\t1", "1\n", "\x001", "1\x00", " ", "\n", " inf", "inf ", "nan\n", " 0x1p0", "0x1p0 ", "0x 1p0", "1 e5", "1e 5", "٣", "1\u00a0", "\u22121", "\uff11", "∞", "ınf", "İnf", "ınf", "0×1p0", "\xff", "1\xff", "nil", "null", "NaN(1)", "1e5L", "$1", "1%",
	} {
		wantRefused(t, s)
		check(t, s)
	}
}

// samples are texts of all kinds, as short as they can be with everything in them.
func samples() []string {
	return []string{
		"0", "7", "-12.50e3", "+1_0.2_5e+1_0", ".5", "5.", "-.5E-7", "0.0", "1e5", "1e+05",
		"0x1p0", "-0x1.8p-3", "+0X_aF.bC_dP+1_0", "0x.8p1", "0x8.p1", "0xe1p1", "0x0.0p0",
		"inf", "-INF", "+Infinity", "infinity", "nan", "NaN",
	}
}

// Every byte at every place, as one more and in the place of another.
func TestSN1EveryByteEverywhere(t *testing.T) {
	for _, s := range samples() {
		for at := range len(s) + 1 {
			for c := range 256 {
				b := string([]byte{byte(c)})
				check(t, s[:at]+b+s[at:])
				if at < len(s) {
					check(t, s[:at]+b+s[at+1:])
				}
			}
		}
	}
}

// eachText does something for every text of at most so many of some bytes.
func eachText(bytes string, most int, do func(s string)) {
	do("")
	if most == 0 {
		return
	}
	for i := range len(bytes) {
		eachText(bytes, most-1, func(s string) { do(bytes[i:i+1] + s) })
	}
}

func TestSN1EveryShortText(t *testing.T) {
	for _, c := range []struct {
		ahead, bytes string
		most         int
	}{
		{"", "05._e-", 6}, {"", "1.E+ ", 5}, {"1", "0._e+-", 5}, {"-0.0", "03_eE", 5}, {"1e", "9_-+.", 5},
		{"0x", "0a._p-", 6}, {"0X", "eFP+.", 5}, {"-0x_", "1_.p", 6}, {"0x1p", "2_+-.p", 5}, {"", "0xX_p1", 5},
		{"", "inaf", 5}, {"inf", "initya", 5}, {"-", "InfN+", 4},
	} {
		eachText(c.bytes, c.most, func(s string) { check(t, c.ahead+s) })
	}
}

func TestSN3Prefix(t *testing.T) {
	nought, one := decimal(false, "", 0), decimal(false, "1", 1)
	inf := api.Parts{Kind: api.TextInf}
	for _, c := range []struct {
		s    string
		want api.Parts
		n    int
	}{
		{"1e+x", one, 1}, {"1e+", one, 1}, {"1e", one, 1}, {"1e-", one, 1}, {"1e_5", one, 1}, {"1e+_5", one, 1}, {"1e5x", decimal(false, "1", 6), 3}, {"1e5e5", decimal(false, "1", 6), 3}, {"1e5.5", decimal(false, "1", 6), 3}, {"1e5_", decimal(false, "1", 6), 3}, {"1e5__5", decimal(false, "1", 6), 3}, {"1e5_x", decimal(false, "1", 6), 3}, {"1.e", one, 2}, {"1.5e+", decimal(false, "15", 1), 3},
		{"1_", one, 1}, {"1__0", one, 1}, {"1_x", one, 1}, {"1_.5", one, 1}, {"1_e5", one, 1}, {"1_0_", decimal(false, "1", 2), 3}, {"1._5", one, 2}, {"1.5_", decimal(false, "15", 1), 3}, {".5_x", decimal(false, "5", 0), 2}, {"1..", one, 2}, {"1.2.3", decimal(false, "12", 1), 3}, {"-1 apples", decimal(true, "1", 1), 2}, {"1p5", one, 1}, {"1x", one, 1},
		{"0x1", nought, 1}, {"0x", nought, 1}, {"0X1.8", nought, 1}, {"-0x1", decimal(true, "", 0), 2}, {"+0x.p0", nought, 2}, {"0x1p", nought, 1}, {"0x1p+", nought, 1}, {"0x1p_0", nought, 1}, {"0x1e5", nought, 1}, {"0x_", nought, 1}, {"0x__1p0", nought, 1}, {"0x_.8p0", nought, 1}, {"0x1_p0", nought, 1}, {"0x1._8p0", nought, 1}, {"0_x1p0", nought, 1}, {"00x1p0", nought, 2}, {"0b1", nought, 1},
		{"0x1p5_", api.Parts{Kind: api.TextHex, Mant: 1, Exp: 5}, 5}, {"0x1p5p5", api.Parts{Kind: api.TextHex, Mant: 1, Exp: 5}, 5}, {"-0x1.8p-3.5", api.Parts{Neg: true, Kind: api.TextHex, Mant: 24, Exp: -7}, 9}, {"0x1p5f", api.Parts{Kind: api.TextHex, Mant: 1, Exp: 5}, 5},
		{"infi", inf, 3}, {"infinit", inf, 3}, {"infinity", inf, 8}, {"infinityy", inf, 8}, {"infinitx", inf, 3}, {"-infin", api.Parts{Neg: true, Kind: api.TextInf}, 4}, {"+INFINITYx", inf, 9}, {"inf_", inf, 3}, {"nano", api.Parts{Kind: api.TextNaN}, 3}, {"nannan", api.Parts{Kind: api.TextNaN}, 3},
	} {
		wantPrefix(t, c.s, c.want, c.n, nil)
		check(t, c.s)
	}
	for _, s := range []string{"", "+", "-", ".", "._5", "_1", "+_1", "e5", "x1", "+nan", "-nan", "in", "na", "+-1", "--1", " 1", "x", "+.e5", "..5", "\xff1"} {
		wantPrefix(t, s, api.Parts{}, 0, api.ErrSyntax)
		check(t, s)
	}
}

// Every begin of a text, and every one with something behind it.
func TestSN3EveryBegin(t *testing.T) {
	for _, s := range samples() {
		for n := range len(s) + 1 {
			for _, behind := range []string{"", " ", "x", "_", ".", "e", "p", "+", "-", "0", "__0", "_0", "e+", "e1", "p1", "p-", "inf"} {
				check(t, s[:n]+behind)
			}
		}
	}
}

func TestSN3LongTexts(t *testing.T) {
	many := 1 << 18
	ones, noughts := strings.Repeat("1", many), strings.Repeat("0", many)
	joined := strings.Repeat("1_", many)
	for _, c := range []struct {
		s string
		n int
	}{
		{"0." + noughts + "1e" + noughts + "5", 2*many + 5}, {joined, 2*many - 1}, {joined + "1." + joined + "1e-" + noughts, 5*many + 5}, {ones + "__1", many}, {noughts + "x1p0", many}, {strings.Repeat("+", many), -1}, {strings.Repeat("_", many), -1}, {strings.Repeat(".", many), -1}, {ones + strings.Repeat("e", many), many}, {"1e" + ones, many + 2}, {"1" + noughts + "e-" + ones, 2*many + 3}, {strings.Repeat("inf", many), 3}, {"1" + strings.Repeat(".", many), 2}, {ones + ".", many + 1}, {ones + ".e+", many + 1},
		{"0x" + noughts, 1}, {"0x" + ones, 1}, {"0x" + joined + "p0", 1}, {"0x_" + joined + "1." + joined + "1p" + joined, 6*many + 6}, {"0x0." + noughts + "1p1", many + 7}, {"0x1" + noughts + "p-1", many + 6}, {"0x1p" + ones + "_", many + 4},
	} {
		checkBegin(t, c.s, c.n)
	}
}

func TestSN4PrefixIsTheWhole(t *testing.T) {
	for _, s := range samples() {
		p, n, err := Prefix(s)
		whole, refused := Scan(s)
		if p != whole || n != len(s) || err != nil || refused != nil {
			t.Errorf("Prefix(%q): %+v, %d, %v; Scan: %+v, %v", s, p, n, err, whole, refused)
		}
	}
}

func TestSN4SignsLettersUnderscores(t *testing.T) {
	for _, s := range samples() {
		want := partsOf(s)
		for _, same := range []string{s, strings.ToUpper(s), strings.ToLower(s), strings.ReplaceAll(s, "_", ""), strings.ToUpper(strings.ReplaceAll(s, "_", ""))} {
			wantScan(t, same, want)
			if want.Kind == api.TextNaN {
				continue
			}
			for _, sign := range []string{"", "+", "-"} {
				other := want
				other.Neg = sign == "-"
				wantScan(t, sign+strings.TrimLeft(same, "+-"), other)
			}
		}
	}
}

func TestSN4NoughtsOfTexts(t *testing.T) {
	for _, row := range []string{"1", "1.5", "0.5", ".5", "0.005", "120.", "0", "0.0"} {
		for _, exp := range []string{"", "e0", "e-7", "e+1099511627777", "e-1099511627777"} {
			want := partsOf(row + exp)
			for _, ahead := range []string{"0", "00", strings.Repeat("0", 900)} {
				wantScan(t, ahead+row+exp, want)
				if strings.Contains(row, ".") {
					wantScan(t, row+ahead+exp, want)
					wantScan(t, ahead+row+ahead+exp, want)
				}
			}
		}
		for _, exp := range []string{"p0", "p-7", "p+1099511627777", "p-1099511627777"} {
			want := partsOf("0x" + row + exp)
			for _, ahead := range []string{"0", "00", strings.Repeat("0", 900)} {
				wantScan(t, "0x"+ahead+row+exp, want)
			}
		}
	}
}
