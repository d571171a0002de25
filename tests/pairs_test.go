package tests

import (
	"math/rand"
	"slices"
	"strings"
	"testing"

	"loop.example/g00803/impl"
)

// pairsByBytes reads a Cookie header byte by byte.
func pairsByBytes(s string) ([]string, int) {
	var list []string
	name, named, start := "", false, 0
	for i := 0; i < len(s); i++ {
		switch {
		case s[i] == ';' && (i+1 == len(s) || s[i+1] != ' '):
			return nil, impl.ErrForm
		case s[i] == ';':
			list = append(list, name, s[start:i])
			name, named, start = "", false, i+2
		case s[i] == '=' && !named:
			name, named, start = s[start:i], true, i+1
		}
	}
	if s != "" {
		list = append(list, name, s[start:])
	}
	return list, 0
}

func checkPairs(t *testing.T, s string) {
	t.Helper()
	got, code := impl.ReadPairs(s)
	if want, wantCode := pairsByBytes(s); !slices.Equal(got, want) || code != wantCode {
		t.Errorf("ReadPairs(%s) = %q, %d, want %q, %d", shown(s), got, code, want, wantCode)
	}
}

func TestP6CookieHeaderCases(t *testing.T) {
	for _, v := range []struct {
		t    string
		want []string
	}{
		{"", nil}, {"a=b", []string{"a", "b"}}, {"a", []string{"", "a"}}, {"=", []string{"", ""}}, {"=a", []string{"", "a"}}, {"a=", []string{"a", ""}}, {"a=b=c", []string{"a", "b=c"}}, {"==", []string{"", "="}},
		{" ", []string{"", " "}}, {" a = b ", []string{" a ", " b "}}, {"\ta\t=\tb\t", []string{"\ta\t", "\tb\t"}},
		{"a=b; c=d", []string{"a", "b", "c", "d"}}, {"a=b; c; =d=e", []string{"a", "b", "", "c", "", "d=e"}}, {"a;  b", []string{"", "a", "", " b"}}, {"a=b;  c=d", []string{"a", "b", " c", "d"}},
		{"a; ", []string{"", "a", "", ""}}, {"; ", []string{"", "", "", ""}}, {"; a", []string{"", "", "", "a"}}, {"; ; ", []string{"", "", "", "", "", ""}}, {"a ; b", []string{"", "a ", "", "b"}},
		{"a=b; a=b", []string{"a", "b", "a", "b"}}, {"A=\"B\"", []string{"A", "\"B\""}}, {"a,b=c", []string{"a,b", "c"}}, {"\x80=\xff; \xc3\xa9=\x00\x7f\n", []string{"\x80", "\xff", "é", "\x00\x7f\n"}},
	} {
		if got, code := impl.ReadPairs(v.t); !slices.Equal(got, v.want) || code != 0 {
			t.Errorf("ReadPairs(%s) = %q, %d, want %q", shown(v.t), got, code, v.want)
		}
		checkPairs(t, v.t)
	}
}

func TestP6CookieHeadersWithoutASpace(t *testing.T) {
	list := []string{";", "a;", "a=b;", "a;b", ";a", "a;\tb", ";; ", "; ;", "a; b;c", "a;b; c", "a; b;", "a=b;\x00c", ";\u00a0a", "a;=b", filled("", ";", impl.MaxText), strings.Repeat(" ;", impl.MaxText/2)}
	for _, s := range list {
		if got, code := impl.ReadPairs(s); len(got) != 0 || code != impl.ErrForm {
			t.Errorf("ReadPairs(%s) = %d strings, %d, want ErrForm", shown(s), len(got), code)
		}
		checkPairs(t, s)
	}
}

func TestP6CookieHeadersAgainstBytes(t *testing.T) {
	source := rand.New(rand.NewSource(8))
	parts := []string{"a", "=", "; ", "; ", ";", " ", "b", "\x80", "\t", "n=v"}
	for _, s := range slices.Concat(manyStrings(), wordsOver("a=; \t\x80", 5), randomHeaders(2000)) {
		checkPairs(t, s)
	}
	for range 20000 {
		text := ""
		for range source.Intn(12) {
			text += parts[source.Intn(len(parts))]
		}
		checkPairs(t, text)
	}
}

func TestP6CookieHeadersOfMaxTextBytes(t *testing.T) {
	for _, v := range []struct {
		t     string
		count int
	}{
		{filled("", "a", impl.MaxText), 2}, {filled("", " ", impl.MaxText), 2}, {filled("", "=", impl.MaxText), 2}, {filled("", "\xff", impl.MaxText), 2},
		{strings.Repeat("; ", impl.MaxText/2), impl.MaxText + 2}, {"a=" + strings.Repeat("; a=", (impl.MaxText-2)/4) + "bc", impl.MaxText / 2},
	} {
		got, code := impl.ReadPairs(v.t)
		if len(v.t) != impl.MaxText || len(got) != v.count || code != 0 {
			t.Errorf("ReadPairs(%s) = %d strings, %d, want %d", shown(v.t), len(got), code, v.count)
		}
		checkPairs(t, v.t)
	}
}

func TestP1CookieHeadersOfMoreThanMaxTextBytes(t *testing.T) {
	for _, length := range []int{impl.MaxText + 1, 2 * impl.MaxText} {
		for _, c := range []string{"a", " ", "=", ";", "\xff"} {
			if got, code := impl.ReadPairs(filled("", c, length)); len(got) != 0 || code != impl.ErrLong {
				t.Errorf("ReadPairs of %d times %q has %d strings and the code %d, want ErrLong", length, c, len(got), code)
			}
		}
	}
}

func TestP6ReadAgeIsDecimal(t *testing.T) {
	for _, s := range append(manyStrings(), "1000000000000", "1000000000001", "-1000000000001", filled("", "9", impl.MaxText), filled("-", "0", impl.MaxText)) {
		n, code := impl.ReadAge(s)
		if want, wantCode := decimalByBig(s); n != want || code != wantCode {
			t.Errorf("ReadAge(%s) = %d, %d, want %d, %d", shown(s), n, code, want, wantCode)
		}
	}
	for _, c := range []string{"0", "9", "x", " "} {
		if n, code := impl.ReadAge(filled("", c, impl.MaxText+1)); n != 0 || code != impl.ErrLong {
			t.Errorf("ReadAge of more than MaxText times %q = %d, %d, want ErrLong", c, n, code)
		}
	}
}

func TestP6ReadSiteCases(t *testing.T) {
	for i, word := range []string{"none", "lax", "strict"} {
		for _, s := range []string{word, strings.ToUpper(word), mixedCase(word), strings.ToUpper(word[:1]) + word[1:]} {
			if got := impl.ReadSite(s); got != i+1 {
				t.Errorf("ReadSite(%q) = %d, want %d", s, got, i+1)
			}
		}
		for _, s := range []string{word + " ", " " + word, "\t" + word, word + word, word[1:], word[:len(word)-1], word + "\x00", "\x80" + word, word + "=", strings.Replace(word, "s", "\u017f", 1) + "\u017f", filled(word, " ", impl.MaxText), filled(word, "t", impl.MaxText)} {
			if got := impl.ReadSite(s); got != impl.SiteDefault {
				t.Errorf("ReadSite(%s) = %d, want SiteDefault", shown(s), got)
			}
		}
	}
	for _, s := range append(manyStrings(), "", "default", "\u017ftrict", "STR\u0130CT", "LA\u0058\u0301") {
		if got := impl.ReadSite(s); got != impl.SiteDefault {
			t.Errorf("ReadSite(%s) = %d, want SiteDefault", shown(s), got)
		}
	}
}

// A chapter that means strings of any length says so, as it does for CodeOf.
func TestP1SitesOfMoreThanMaxTextBytes(t *testing.T) {
	for _, s := range []string{filled("", "x", impl.MaxText+1), filled("lax", " ", impl.MaxText+1), strings.Repeat("none", impl.MaxText)} {
		if got := impl.ReadSite(s); got != 0 {
			t.Errorf("ReadSite(%s) = %d, want 0", shown(s), got)
		}
	}
}
