package tests

import (
	"math/rand"
	"regexp"
	"slices"
	"strconv"
	"strings"
	"testing"

	"loop.example/g00803/impl"
)

var (
	hostForm    = regexp.MustCompile(`^[a-z0-9_-]+(\.[a-z0-9_-]+){0,5}$`)
	addressForm = regexp.MustCompile(`^(25[0-5]|2[0-4][0-9]|1[0-9][0-9]|[1-9]?[0-9])(\.(25[0-5]|2[0-4][0-9]|1[0-9][0-9]|[1-9]?[0-9])){3}$`)
)

func hostByForm(t string) bool { return len(t) <= 40 && hostForm.MatchString(t) }

func canonByForm(t string) (string, int) {
	folded := foldByBytes(t)
	if len(folded) > 1 && folded[len(folded)-1] == '.' {
		folded = folded[:len(folded)-1]
	}
	if !hostByForm(folded) {
		return "", impl.ErrForm
	}
	return folded, 0
}

// labelsByBytes gives an empty last label to a string that ends with a period.
func labelsByBytes(t string) []string {
	labels := []string{""}
	for i := 0; i < len(t); i++ {
		if t[i] == '.' {
			labels = append(labels, "")
		} else {
			labels[len(labels)-1] += t[i : i+1]
		}
	}
	return labels
}

// matchByLabels forms all domains that a host may match.
func matchByLabels(host, domain string) bool {
	if !hostByForm(host) || !hostByForm(domain) {
		return false
	}
	if addressForm.MatchString(host) {
		return host == domain
	}
	for labels := labelsByBytes(host); len(labels) > 0; labels = labels[1:] {
		if strings.Join(labels, ".") == domain {
			return true
		}
	}
	return false
}

func checkHost(t *testing.T, s string) {
	t.Helper()
	want := hostByForm(s)
	if got := impl.HostOK(s); got != want {
		t.Errorf("HostOK(%s) = %v, want %v", shown(s), got, want)
	}
	if got, want := impl.IsAddress(s), addressForm.MatchString(s); got != want {
		t.Errorf("IsAddress(%s) = %v, want %v", shown(s), got, want)
	}
	host, code := impl.CanonHost(s)
	if wantHost, wantCode := canonByForm(s); host != wantHost || code != wantCode {
		t.Errorf("CanonHost(%s) = %s, %d, want %s, %d", shown(s), shown(host), code, wantHost, wantCode)
	}
	labels, code := impl.LabelsOf(s)
	if want && (code != 0 || !slices.Equal(labels, labelsByBytes(s))) || !want && (code != impl.ErrForm || len(labels) != 0) {
		t.Errorf("LabelsOf(%s) = %q, %d", shown(s), labels, code)
	}
}

func checkMatch(t *testing.T, host, domain string) {
	t.Helper()
	if got, want := impl.DomainMatch(host, domain), matchByLabels(host, domain); got != want {
		t.Errorf("DomainMatch(%s, %s) = %v, want %v", shown(host), shown(domain), got, want)
	}
}

// nearHosts joins random labels, so that most are hosts or just miss being one.
func nearHosts(count int) []string {
	source := rand.New(rand.NewSource(2))
	labels := []string{"a", "b", "example", "1", "0", "255", "256", "-", "_", "a-b_c", "01", "", "B", "x\x80", "aaaaaaaaaaaa"}
	ends := []string{"", "", "", ".", "..", " "}
	var list []string
	for range count {
		var parts []string
		kinds := 1 + source.Intn(len(labels))
		for range 1 + source.Intn(8) {
			parts = append(parts, labels[source.Intn(kinds)])
		}
		list = append(list, strings.Join(parts, ".")+ends[source.Intn(len(ends))])
	}
	return list
}

func onlyHosts(list []string) []string {
	return slices.DeleteFunc(list, func(s string) bool { return !hostByForm(s) })
}

// mixedCase gives upper-case letters to every second byte.
func mixedCase(t string) string {
	b := []byte(t)
	for i := 0; i < len(b); i += 2 {
		b[i] = strings.ToUpper(t)[i]
	}
	return string(b)
}

func TestP1HostsAgainstForms(t *testing.T) {
	for _, s := range slices.Concat(manyStrings(), wordsOver(".aA-1\x80", 6), nearHosts(5000)) {
		checkHost(t, s)
	}
}

func TestP1HostCases(t *testing.T) {
	a := func(n int) string { return strings.Repeat("a", n) }
	for _, v := range []struct {
		t    string
		want bool
	}{
		{"a", true}, {"example", true}, {"a.example", true}, {"www.a.example", true}, {"x.y", true},
		{a(40), true}, {a(41), false}, {a(20) + "." + a(19), true}, {a(20) + "." + a(20), false},
		{"a.b.c.d.e.f", true}, {"a.b.c.d.e.f.g", false}, {"a.b.c.d.e.", false}, {"a.b.c.d.e.f.", false},
		{"aaaaaa.aaaaaa.aaaaaa.aaaaaa.aaaaaa.aaaaa", true}, {"aaaaaa.aaaaaa.aaaaaa.aaaaaa.aaaaaa.aaaaaa", false},
		{"", false}, {".", false}, {"..", false}, {"a.", false}, {"a..", false}, {".a", false}, {"a..b", false}, {"a.b..c", false}, {"a.b.", false},
		{"A", false}, {"a.B", false}, {"Z.a", false}, {"-", true}, {"_", true}, {"-.-", true}, {"_a-1_.-0", true}, {"0", true}, {"9.9", true},
		{"a b", false}, {" a", false}, {"a ", false}, {"a/b", false}, {"a:1", false}, {"*.a", false}, {"!a", false}, {"a+b", false}, {"a,b", false}, {"a`", false}, {"a{", false}, {"a@b", false}, {"a[", false}, {"a^b", false},
		{"\x00", false}, {"a\x00", false}, {"a\n", false}, {"\ta", false}, {"a\x7f", false}, {"\x80", false}, {"a.\xff", false}, {"é", false}, {"a.é", false}, {"\u212a", false}, {"a\u3002b", false}, {"a\uff0eb", false},
	} {
		if got := impl.HostOK(v.t); got != v.want {
			t.Errorf("HostOK(%s) = %v, want %v", shown(v.t), got, v.want)
		}
		checkHost(t, v.t)
	}
}

func TestP1AddressCases(t *testing.T) {
	for _, v := range []struct {
		t    string
		want bool
	}{
		{"0.0.0.0", true}, {"1.2.3.4", true}, {"255.255.255.255", true}, {"9.10.99.100", true}, {"127.0.0.1", true},
		{"256.0.0.0", false}, {"0.256.0.0", false}, {"0.0.256.0", false}, {"0.0.0.256", false}, {"1.2.3.1000", false}, {"1.2.3.260", false}, {"1.2.3.300", false},
		{"00.0.0.0", false}, {"1.02.3.4", false}, {"1.2.003.4", false}, {"1.2.3.04", false}, {"1.2.3.0255", false}, {"1.2.3.-0", false}, {"-1.2.3.4", false}, {"1.2.-3.4", false}, {"1.2.3.-255", false},
		{"1", false}, {"1.2", false}, {"1.2.3", false}, {"1.2.3.4.5", false}, {"1.2.3.4.5.6", false}, {"1.2.3.4.5.6.7", false},
		{"-.2.3.4", false}, {"1.2.3.-", false}, {"_.2.3.4", false}, {"1.2.3._", false}, {"1_0.2.3.4", false}, {"1.2.3.--1", false}, {"1.2.3.1-", false},
		{"1.2.3.x", false}, {"a.2.3.4", false}, {"1.2a.3.4", false}, {"1.2.3.0x1", false}, {"1.2.3.1e1", false}, {"a.b.c.d", false},
		{"1.2.3.4.", false}, {".1.2.3.4", false}, {"1.2..4", false}, {"1..2.3.4", false}, {"1.2.3.", false}, {"...", false}, {"", false}, {".", false},
		{"+1.2.3.4", false}, {" 1.2.3.4", false}, {"1.2.3.4 ", false}, {"1.2.3.4\x00", false}, {"1.2.3.\u0661", false}, {"\x80.2.3.4", false},
		{"18446744073709551617.0.0.0", false}, {"0.0.0.4294967296", false}, {"0.0.0.99999999999999999999999999", false},
	} {
		if got := impl.IsAddress(v.t); got != v.want {
			t.Errorf("IsAddress(%s) = %v, want %v", shown(v.t), got, v.want)
		}
		checkHost(t, v.t)
	}
}

func TestP1AddressAtEachLabel(t *testing.T) {
	labels := []string{"", "-", "-0", "-1", "00", "000", "a"}
	for n := range 1100 {
		labels = append(labels, strconv.Itoa(n), "0"+strconv.Itoa(n), "-"+strconv.Itoa(n))
	}
	for _, label := range labels {
		for place := range 4 {
			parts := []string{"1", "20", "255", "0"}
			parts[place] = label
			checkHost(t, strings.Join(parts, "."))
		}
	}
}

func TestP1LabelCases(t *testing.T) {
	for _, v := range []struct {
		t      string
		labels []string
		code   int
	}{
		{"c.b.a", []string{"c", "b", "a"}, 0},
		{"a", []string{"a"}, 0},
		{"1.2.3.4", []string{"1", "2", "3", "4"}, 0},
		{"f.e.d.c.b.a", []string{"f", "e", "d", "c", "b", "a"}, 0},
		{"a.a.-._", []string{"a", "a", "-", "_"}, 0},
		{strings.Repeat("x", 40), []string{strings.Repeat("x", 40)}, 0},
		{"", nil, impl.ErrForm}, {".", nil, impl.ErrForm}, {"a.", nil, impl.ErrForm}, {"c..a", nil, impl.ErrForm}, {".a", nil, impl.ErrForm},
		{"g.f.e.d.c.b.a", nil, impl.ErrForm}, {"c.B.a", nil, impl.ErrForm}, {strings.Repeat("x", 41), nil, impl.ErrForm}, {"c.\x80", nil, impl.ErrForm},
	} {
		if labels, code := impl.LabelsOf(v.t); code != v.code || !slices.Equal(labels, v.labels) {
			t.Errorf("LabelsOf(%s) = %q, %d, want %q, %d", shown(v.t), labels, code, v.labels, v.code)
		}
	}
}

func TestP1HostTextsOfMaxTextBytes(t *testing.T) {
	for _, s := range longHosts(impl.MaxText) {
		checkHost(t, s)
		checkMatch(t, s, s)
		checkMatch(t, s, "a")
		checkMatch(t, "a", s)
	}
}

func TestP1HostTextsOfMoreThanMaxTextBytes(t *testing.T) {
	for _, s := range append(longHosts(impl.MaxText+1), longHosts(2*impl.MaxText)...) {
		if host, code := impl.CanonHost(s); host != "" || code != impl.ErrLong {
			t.Errorf("CanonHost(%s) = %s, %d, want ErrLong", shown(s), shown(host), code)
		}
		if labels, code := impl.LabelsOf(s); len(labels) != 0 || code != impl.ErrLong {
			t.Errorf("LabelsOf(%s) = %d labels, %d, want ErrLong", shown(s), len(labels), code)
		}
		if impl.HostOK(s) || impl.IsAddress(s) || impl.DomainMatch(s, s) || impl.DomainMatch(s, "a") || impl.DomainMatch("a", s) {
			t.Errorf("HostOK, IsAddress or DomainMatch is true for %s", shown(s))
		}
	}
}

func longHosts(length int) []string {
	list := []string{strings.Repeat("a", length-1) + ".", strings.Repeat("b", length-2) + ".a"}
	for _, c := range []string{"a", "A", ".", "1", "-", "\xff"} {
		list = append(list, strings.Repeat(c, length))
	}
	return append(list, "1.2.3."+strings.Repeat("0", length-6), "a"+strings.Repeat(".", length-1))
}

func TestP3CanonHostCases(t *testing.T) {
	for _, v := range []struct {
		t, host string
		code    int
	}{
		{"a.example", "a.example", 0}, {"a.example.", "a.example", 0}, {"A.EXAMPLE", "a.example", 0}, {"A.Example.", "a.example", 0},
		{"A", "a", 0}, {"Z.", "z", 0}, {"A-B_C.1", "a-b_c.1", 0}, {"1.2.3.4.", "1.2.3.4", 0}, {"-", "-", 0}, {"_.", "_", 0},
		{strings.Repeat("A", 40), strings.Repeat("a", 40), 0}, {strings.Repeat("A", 40) + ".", strings.Repeat("a", 40), 0},
		{"A.B.C.D.E.F", "a.b.c.d.e.f", 0}, {"A.B.C.D.E.F.", "a.b.c.d.e.f", 0},
		{strings.Repeat("a", 40) + "..", "", impl.ErrForm}, {strings.Repeat("a", 41), "", impl.ErrForm}, {strings.Repeat("a", 41) + ".", "", impl.ErrForm},
		{"a.b.c.d.e.f.g", "", impl.ErrForm}, {"a.b.c.d.e.f.g.", "", impl.ErrForm},
		{"", "", impl.ErrForm}, {".", "", impl.ErrForm}, {"..", "", impl.ErrForm}, {"a..", "", impl.ErrForm}, {".a", "", impl.ErrForm}, {".a.", "", impl.ErrForm}, {"a..b", "", impl.ErrForm}, {"a..b.", "", impl.ErrForm},
		{" a", "", impl.ErrForm}, {"a. ", "", impl.ErrForm}, {"a .", "", impl.ErrForm}, {"a\x00", "", impl.ErrForm}, {"\x80", "", impl.ErrForm}, {"a.\xff.", "", impl.ErrForm}, {"É", "", impl.ErrForm}, {"\u212a", "", impl.ErrForm}, {"a/", "", impl.ErrForm},
	} {
		if host, code := impl.CanonHost(v.t); host != v.host || code != v.code {
			t.Errorf("CanonHost(%s) = %s, %d, want %s, %d", shown(v.t), shown(host), code, v.host, v.code)
		}
	}
}

func TestP3CaseAndFinalPeriodDoNotCount(t *testing.T) {
	for _, host := range onlyHosts(nearHosts(3000)) {
		for _, s := range []string{host, host + ".", strings.ToUpper(host), strings.ToUpper(host) + ".", mixedCase(host), mixedCase(host) + "."} {
			if got, code := impl.CanonHost(s); got != host || code != 0 {
				t.Errorf("CanonHost(%s) = %s, %d, want %s", shown(s), shown(got), code, host)
			}
		}
		if got, code := impl.CanonHost(host + ".."); got != "" || code != impl.ErrForm {
			t.Errorf("CanonHost(%s) = %s, %d, want ErrForm", shown(host+".."), shown(got), code)
		}
	}
}

func TestP3CanonicalHostsAreHosts(t *testing.T) {
	for _, s := range append(wordsOver(".aA-\x80", 5), nearHosts(3000)...) {
		host, code := impl.CanonHost(s)
		if code != 0 {
			continue
		}
		if again, code := impl.CanonHost(host); !impl.HostOK(host) || again != host || code != 0 {
			t.Errorf("CanonHost(%s) = %s, which becomes %s, %d", shown(s), shown(host), shown(again), code)
		}
	}
}

func TestP3DomainMatchCases(t *testing.T) {
	for _, v := range []struct {
		host, domain string
		want         bool
	}{
		{"a.example", "a.example", true}, {"b.a.example", "a.example", true}, {"c.b.a.example", "example", true}, {"example", "example", true},
		{"f.e.d.c.b.a", "a", true}, {"f.e.d.c.b.a", "e.d.c.b.a", true}, {"f.e.d.c.b.a", "f.e.d.c.b.a", true},
		{"ba.example", "a.example", false}, {"aexample", "example", false}, {"b-a.example", "a.example", false}, {"b_a.example", "a.example", false},
		{"example", "a.example", false}, {"a.example", "b.a.example", false}, {"a.example", "a", false}, {"a.example", "b.example", false}, {"a.b.c", "a.b", false}, {"a.b.c", "a.c", false},
		{"1.2.3.4", "1.2.3.4", true}, {"1.2.3.4", "2.3.4", false}, {"1.2.3.4", "3.4", false}, {"1.2.3.4", "4", false}, {"255.0.0.255", "0.255", false},
		{"0.1.2.3.4", "1.2.3.4", true}, {"x.1.2.3.4", "1.2.3.4", true}, {"x.1.2.3.4", "4", true}, {"x.2.3.4", "3.4", true}, {"2.3.4", "3.4", true},
		{"256.2.3.4", "3.4", true}, {"01.2.3.4", "3.4", true}, {"1.2.3.04", "3.04", true}, {"-.2.3.4", "2.3.4", true}, {"1.2.3.x", "x", true}, {"1.2.3.-0", "-0", true},
		{"", "", false}, {"a", "", false}, {"", "a", false}, {".", ".", false}, {"a.", "a.", false}, {"a.", "a", false}, {"a", "a.", false}, {"b.a", ".a", false}, {"b.a.", "a.", false},
		{"A", "A", false}, {"A.example", "example", false}, {"a.Example", "Example", false}, {"\x80", "\x80", false}, {"\x80.a", "a", false}, {"a b.c", "c", false},
		{"g.f.e.d.c.b.a", "a", false}, {"g.f.e.d.c.b.a", "g.f.e.d.c.b.a", false}, {"f.e.d.c.b.a", "g.f.e.d.c.b.a", false},
		{strings.Repeat("a", 40), strings.Repeat("a", 40), true}, {strings.Repeat("a", 41), strings.Repeat("a", 41), false}, {strings.Repeat("b", 38) + ".a", "a", true}, {strings.Repeat("b", 39) + ".a", "a", false},
	} {
		if got := impl.DomainMatch(v.host, v.domain); got != v.want {
			t.Errorf("DomainMatch(%s, %s) = %v, want %v", shown(v.host), shown(v.domain), got, v.want)
		}
	}
}

func TestP3AHostMatchesItsLastLabels(t *testing.T) {
	for _, host := range onlyHosts(nearHosts(5000)) {
		labels, code := impl.LabelsOf(host)
		if code != 0 {
			t.Errorf("LabelsOf(%s) = %d", shown(host), code)
		}
		for i := range labels {
			domain := strings.Join(labels[i:], ".")
			if got, want := impl.DomainMatch(host, domain), i == 0 || !impl.IsAddress(host); got != want {
				t.Errorf("DomainMatch(%s, %s) = %v, want %v", host, domain, got, want)
			}
		}
	}
}

// The domains are all parts of each string, so that they end and begin anywhere.
func TestP3DomainMatchAgainstLabels(t *testing.T) {
	hosts := append(wordsOver(".a1", 6), "1.2.3.4", "11.22.33.44", "256.1.1.1", "01.1.1.1", "x.1.1.1.1", "A.b", "ab-b.b_b", "\x80.a")
	for _, host := range append(hosts, nearHosts(300)...) {
		for from := range len(host) + 1 {
			for to := from; to <= len(host); to++ {
				checkMatch(t, host, host[from:to])
				checkMatch(t, host[from:to], host)
			}
		}
	}
}
