package tests

import (
	"math/big"
	"strings"
	"testing"

	"loop.example/g00803/impl"
)

func foldByBytes(t string) string {
	b := []byte(t)
	for i, c := range b {
		if isUpper(c) {
			b[i] = c + 32
		}
	}
	return string(b)
}

func trimByBytes(t string) string {
	for t != "" && (t[0] == 32 || t[0] == 9) {
		t = t[1:]
	}
	for t != "" && (t[len(t)-1] == 32 || t[len(t)-1] == 9) {
		t = t[:len(t)-1]
	}
	return t
}

func controlByBytes(t string) bool {
	for i := 0; i < len(t); i++ {
		if t[i] < 32 && t[i] != 9 || t[i] == 127 {
			return true
		}
	}
	return false
}

func tokenByBytes(t string) bool {
	for i := 0; i < len(t); i++ {
		if !isLetter(t[i]) && !isDigit(t[i]) && strings.IndexByte("!#$%&'*+-.^_|~", t[i]) < 0 {
			return false
		}
	}
	return t != ""
}

func decimalByBig(t string) (int, int) {
	digits := strings.TrimPrefix(t, "-")
	for i := 0; i < len(digits); i++ {
		if !isDigit(digits[i]) {
			return 0, impl.ErrForm
		}
	}
	n, ok := new(big.Int).SetString(t, 10)
	if !ok || digits == "" {
		return 0, impl.ErrForm
	}
	if most := big.NewInt(1000000000000); n.CmpAbs(most) > 0 {
		return n.Sign() * 1000000000000, 0
	}
	return int(n.Int64()), 0
}

func splitByBytes(t string, c byte) (string, string, bool) {
	for i := 0; i < len(t); i++ {
		if t[i] == c {
			return t[:i], t[i+1:], true
		}
	}
	return t, "", false
}

func checkOctets(t *testing.T, s string) {
	t.Helper()
	if got, want := impl.Fold(s), foldByBytes(s); got != want {
		t.Errorf("Fold(%s) = %s, want %s", shown(s), shown(got), shown(want))
	}
	if got, want := impl.Trim(s), trimByBytes(s); got != want {
		t.Errorf("Trim(%s) = %s, want %s", shown(s), shown(got), shown(want))
	}
	if got, want := impl.HasControl(s), controlByBytes(s); got != want {
		t.Errorf("HasControl(%s) = %v, want %v", shown(s), got, want)
	}
	if got, want := impl.IsToken(s), tokenByBytes(s); got != want {
		t.Errorf("IsToken(%s) = %v, want %v", shown(s), got, want)
	}
	n, code := impl.Decimal(s)
	if wantN, wantCode := decimalByBig(s); n != wantN || code != wantCode {
		t.Errorf("Decimal(%s) = %d, %d, want %d, %d", shown(s), n, code, wantN, wantCode)
	}
}

func checkSplit(t *testing.T, s string, c byte) {
	t.Helper()
	a, b, ok := impl.SplitAt(s, c)
	wantA, wantB, wantOK := splitByBytes(s, c)
	if a != wantA || b != wantB || ok != wantOK {
		t.Errorf("SplitAt(%s, %d) = %s, %s, %v, want %s, %s, %v", shown(s), c, shown(a), shown(b), ok, shown(wantA), shown(wantB), wantOK)
	}
}

func TestP1OctetsAgainstBytes(t *testing.T) {
	for _, s := range manyStrings() {
		checkOctets(t, s)
		for _, c := range []byte(" =;9\x00\x7f\xc3\xa9\xff") {
			checkSplit(t, s, c)
		}
	}
}

func TestP1SplitAtEachByte(t *testing.T) {
	var all []byte
	for c := range 256 {
		all = append(all, byte(c))
	}
	for c := range 256 {
		checkSplit(t, string(all), byte(c))
		checkSplit(t, string(all)+string(all), byte(c))
		checkSplit(t, strings.ReplaceAll(string(all), string([]byte{byte(c)}), ""), byte(c))
	}
}

func TestP1FoldAndTrimCases(t *testing.T) {
	for _, v := range []struct{ t, fold, trim string }{
		{"", "", ""},
		{"@AZ[`az{", "@az[`az{", "@AZ[`az{"},
		{"ÀÉ \u212a", "ÀÉ \u212a", "ÀÉ \u212a"},
		{"\x80A\xc0Z\xff", "\x80a\xc0z\xff", "\x80A\xc0Z\xff"},
		{" ", " ", ""},
		{"\t \t", "\t \t", ""},
		{" a \t b\t", " a \t b\t", "a \t b"},
		{"\n a \r", "\n a \r", "\n a \r"},
		{"\u00a0a\u00a0", "\u00a0a\u00a0", "\u00a0a\u00a0"},
		{" \x80 ", " \x80 ", "\x80"},
		{"\x7f ", "\x7f ", "\x7f"},
	} {
		if got := impl.Fold(v.t); got != v.fold {
			t.Errorf("Fold(%q) = %q, want %q", v.t, got, v.fold)
		}
		if got := impl.Trim(v.t); got != v.trim {
			t.Errorf("Trim(%q) = %q, want %q", v.t, got, v.trim)
		}
	}
}

func TestP1ControlAndTokenCases(t *testing.T) {
	for _, v := range []struct {
		t              string
		control, token bool
	}{
		{"", false, false},
		{"abcXYZ019!#$%&'*+-.^_|~", false, true},
		{"a b", false, false},
		{"a\tb", false, false},
		{"a\x08", true, false},
		{"a\x0a", true, false},
		{"\x1fa", true, false},
		{"a\x7f", true, false},
		{"a\x80", false, false},
		{"é", false, false},
		{"\xc3\x1f", true, false},
		{"a\xe2\x7f", true, false},
		{"a`", false, false},
		{"a=", false, false},
		{"a;", false, false},
		{"a\"", false, false},
		{"{}", false, false},
	} {
		if got := impl.HasControl(v.t); got != v.control {
			t.Errorf("HasControl(%q) = %v, want %v", v.t, got, v.control)
		}
		if got := impl.IsToken(v.t); got != v.token {
			t.Errorf("IsToken(%q) = %v, want %v", v.t, got, v.token)
		}
	}
}

func TestP1DecimalCases(t *testing.T) {
	zeros := strings.Repeat("0", 60000)
	nines := strings.Repeat("9", 60000)
	for _, v := range []struct {
		t       string
		n, code int
	}{
		{"0", 0, 0}, {"-0", 0, 0}, {"00", 0, 0}, {"-000", 0, 0}, {"7", 7, 0}, {"-7", -7, 0}, {"0042", 42, 0}, {"-0042", -42, 0},
		{"999999999999", 999999999999, 0}, {"-999999999999", -999999999999, 0},
		{"1000000000000", 1000000000000, 0}, {"-1000000000000", -1000000000000, 0},
		{"1000000000001", 1000000000000, 0}, {"-1000000000001", -1000000000000, 0},
		{"10000000000000", 1000000000000, 0}, {"-10000000000000", -1000000000000, 0},
		{"9223372036854775807", 1000000000000, 0}, {"-9223372036854775808", -1000000000000, 0},
		{"9223372036854775808", 1000000000000, 0}, {"-9223372036854775809", -1000000000000, 0},
		{"18446744073709551616", 1000000000000, 0}, {"18446744073709551617", 1000000000000, 0},
		{"-18446744073709551617", -1000000000000, 0}, {"340282366920938463463374607431768211457", 1000000000000, 0},
		{nines, 1000000000000, 0}, {"-" + nines, -1000000000000, 0}, {"1" + zeros, 1000000000000, 0},
		{zeros, 0, 0}, {"-" + zeros, 0, 0}, {zeros + "12", 12, 0}, {"-" + zeros + "12", -12, 0},
		{zeros + "1000000000001", 1000000000000, 0},
		{"", 0, impl.ErrForm}, {"-", 0, impl.ErrForm}, {"--", 0, impl.ErrForm}, {"--1", 0, impl.ErrForm}, {"-+1", 0, impl.ErrForm},
		{"+1", 0, impl.ErrForm}, {"1-", 0, impl.ErrForm}, {"1-1", 0, impl.ErrForm}, {"- 1", 0, impl.ErrForm}, {" 1", 0, impl.ErrForm},
		{"1 ", 0, impl.ErrForm}, {"\t1", 0, impl.ErrForm}, {"1\x00", 0, impl.ErrForm}, {"1x", 0, impl.ErrForm}, {"0x1", 0, impl.ErrForm},
		{"1_0", 0, impl.ErrForm}, {"1.0", 0, impl.ErrForm}, {"1e3", 0, impl.ErrForm}, {"/", 0, impl.ErrForm}, {":", 0, impl.ErrForm},
		{"1\x7f", 0, impl.ErrForm}, {"1\x80", 0, impl.ErrForm}, {"\u0661", 0, impl.ErrForm}, {"１", 0, impl.ErrForm},
		{nines + "x", 0, impl.ErrForm}, {"-" + nines + "-", 0, impl.ErrForm},
	} {
		if n, code := impl.Decimal(v.t); n != v.n || code != v.code {
			t.Errorf("Decimal(%s) = %d, %d, want %d, %d", shown(v.t), n, code, v.n, v.code)
		}
	}
}

func TestP1TextsOfMaxTextBytes(t *testing.T) {
	for _, s := range []string{
		strings.Repeat("A", impl.MaxText),
		strings.Repeat("9", impl.MaxText),
		"-" + strings.Repeat("0", impl.MaxText-2) + "5",
		strings.Repeat(" ", impl.MaxText),
		" " + strings.Repeat("a", impl.MaxText-2) + "\t",
		strings.Repeat("a", impl.MaxText-1) + "\x7f",
		strings.Repeat("\xff", impl.MaxText),
	} {
		checkOctets(t, s)
		checkSplit(t, s, s[len(s)-1])
		checkSplit(t, s, '=')
	}
}

func TestP1TextsOfMoreThanMaxTextBytes(t *testing.T) {
	for _, s := range []string{
		strings.Repeat("A", impl.MaxText+1),
		strings.Repeat("9", impl.MaxText+1),
		"x" + strings.Repeat("9", impl.MaxText),
		strings.Repeat(" ", impl.MaxText+1),
		strings.Repeat(" ", impl.MaxText) + "a",
		strings.Repeat("a=", impl.MaxText),
		strings.Repeat("\x7f", impl.MaxText+1),
	} {
		if got := impl.Fold(s); got != "" {
			t.Errorf("Fold(%s) = %s, want the empty string", shown(s), shown(got))
		}
		if got := impl.Trim(s); got != "" {
			t.Errorf("Trim(%s) = %s, want the empty string", shown(s), shown(got))
		}
		if impl.HasControl(s) || impl.IsToken(s) || impl.NameOK(s) {
			t.Errorf("HasControl, IsToken or NameOK is true for %s", shown(s))
		}
		if n, code := impl.Decimal(s); n != 0 || code != impl.ErrLong {
			t.Errorf("Decimal(%s) = %d, %d, want 0, ErrLong", shown(s), n, code)
		}
		for _, c := range []byte("=a ~") {
			if a, b, ok := impl.SplitAt(s, c); a != "" || b != "" || ok {
				t.Errorf("SplitAt(%s, %d) = %s, %s, %v, want zero values", shown(s), c, shown(a), shown(b), ok)
			}
		}
		if got := impl.CodeOf(s); got != -1 {
			t.Errorf("CodeOf(%s) = %d, want -1", shown(s), got)
		}
	}
}
