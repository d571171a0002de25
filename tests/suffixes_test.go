package tests

import (
	"math/rand"
	"slices"
	"strings"
	"testing"

	"loop.example/g00803/impl"
)

// tailOf is the host's last labels, or all of them.
func tailOf(host string, count int) string {
	labels := labelsByBytes(host)
	return strings.Join(labels[len(labels)-min(count, len(labels)):], ".")
}

// sizeByTails looks for each tail of the host among the rules, where the program looks for each rule in the host.
func sizeByTails(rules []string, host string) int {
	labels := len(labelsByBytes(host))
	if addressForm.MatchString(host) {
		return labels
	}
	size, first, exception := 1, len(rules), 0
	for n := 1; n <= labels; n++ {
		tail := tailOf(host, n)
		if slices.Contains(rules, tail) {
			size = max(size, n)
		}
		if n < labels && slices.Contains(rules, "*."+tail) {
			size = max(size, n+1)
		}
		if i := slices.Index(rules, "!"+tail); i >= 0 && i < first {
			first, exception = i, n
		}
	}
	if exception > 0 {
		return max(exception-1, 1)
	}
	return size
}

func partyByTails(rules []string, host string) string {
	return tailOf(host, sizeByTails(rules, host)+1)
}

// checkSuffix checks the results of all functions for one host.
func checkSuffix(t *testing.T, rules []string, host, suffix, party string) {
	t.Helper()
	if got, code := impl.SuffixOf(rules, host); got != suffix || code != 0 {
		t.Errorf("SuffixOf(%s, %s) = %q, %d, want %q", shownRules(rules), shown(host), got, code, suffix)
	}
	is := suffix == host && !addressForm.MatchString(host)
	if got, code := impl.IsSuffix(rules, host); got != is || code != 0 {
		t.Errorf("IsSuffix(%s, %s) = %v, %d, want %v", shownRules(rules), shown(host), got, code, is)
	}
	registrable, wantCode := party, 0
	if is {
		registrable, wantCode = "", impl.ErrNone
	}
	if got, code := impl.Registrable(rules, host); got != registrable || code != wantCode {
		t.Errorf("Registrable(%s, %s) = %q, %d, want %q, %d", shownRules(rules), shown(host), got, code, registrable, wantCode)
	}
	if same, code := impl.SameParty(rules, host, party); !same || code != 0 {
		t.Errorf("SameParty(%s, %s, %s) = %v, %d, want true", shownRules(rules), shown(host), party, same, code)
	}
}

func checkHostOfRules(t *testing.T, rules []string, host string) {
	t.Helper()
	checkSuffix(t, rules, host, tailOf(host, sizeByTails(rules, host)), partyByTails(rules, host))
}

// checkFailing checks that all functions fail with the code and have no other result.
func checkFailing(t *testing.T, rules []string, a, b string, want int) {
	t.Helper()
	suffix, suffixCode := impl.SuffixOf(rules, a)
	is, isCode := impl.IsSuffix(rules, a)
	party, partyCode := impl.Registrable(rules, a)
	if suffix != "" || is || party != "" || suffixCode != want || isCode != want || partyCode != want {
		t.Errorf("with %s and %s: SuffixOf = %q, %d, IsSuffix = %v, %d, Registrable = %q, %d, want the code %d", shownRules(rules), shown(a), suffix, suffixCode, is, isCode, party, partyCode, want)
	}
	checkNoParty(t, rules, a, b, want)
}

func checkNoParty(t *testing.T, rules []string, a, b string, want int) {
	t.Helper()
	for _, v := range [][2]string{{a, b}, {b, a}} {
		if same, code := impl.SameParty(rules, v[0], v[1]); same || code != want {
			t.Errorf("SameParty(%s, %s, %s) = %v, %d, want the code %d", shownRules(rules), shown(v[0]), shown(v[1]), same, code, want)
		}
	}
}

func words(t string) []string { return strings.Fields(t) }

type suffixCase struct{ rules, host, suffix, party string }

func checkSuffixCases(t *testing.T, list []suffixCase) {
	t.Helper()
	for _, v := range list {
		checkSuffix(t, words(v.rules), v.host, v.suffix, v.party)
		checkHostOfRules(t, words(v.rules), v.host)
	}
}

func TestP7HostsWithoutARuleThatApplies(t *testing.T) {
	checkSuffixCases(t, []suffixCase{
		{"", "a", "a", "a"}, {"", "b.a", "a", "b.a"}, {"", "c.b.a", "a", "b.a"}, {"", "f.e.d.c.b.a", "a", "b.a"}, {"", "a.a.a", "a", "a.a"},
		{"x", "a", "a", "a"}, {"x", "b.a", "a", "b.a"}, {"x *.y !z", "c.b.a", "a", "b.a"}, {"b", "b.a", "a", "b.a"}, {"c.b", "c.b.a", "a", "b.a"},
		{"b.a", "a", "a", "a"}, {"b.a", "c.a", "a", "c.a"}, {"*.b.a", "a", "a", "a"}, {"!b.a", "a", "a", "a"}, {"!b.a", "c.a", "a", "c.a"},
		{"", strings.Repeat("a", 40), strings.Repeat("a", 40), strings.Repeat("a", 40)}, {"", "-._", "_", "-._"},
	})
	checkSuffix(t, nil, "b.a", "a", "b.a")
	checkSuffix(t, []string{}, "b.a", "a", "b.a")
}

func TestP7HostsToWhichRulesApply(t *testing.T) {
	checkSuffixCases(t, []suffixCase{
		{"a", "a", "a", "a"}, {"a", "b.a", "a", "b.a"}, {"a", "c.b.a", "a", "b.a"},
		{"b.a", "b.a", "b.a", "b.a"}, {"b.a", "c.b.a", "b.a", "c.b.a"}, {"b.a", "d.c.b.a", "b.a", "c.b.a"},
		{"a b.a", "c.b.a", "b.a", "c.b.a"}, {"b.a a", "c.b.a", "b.a", "c.b.a"}, {"a b.a c.b.a", "d.c.b.a", "c.b.a", "d.c.b.a"}, {"c.b.a a b.a", "d.c.b.a", "c.b.a", "d.c.b.a"}, {"b.a c.b.a a", "c.b.a", "c.b.a", "c.b.a"},
		{"c.b.a", "b.a", "a", "b.a"}, {"c.b.a x.b.a", "d.x.b.a", "x.b.a", "d.x.b.a"},
		{"f.e.d.c.b.a", "f.e.d.c.b.a", "f.e.d.c.b.a", "f.e.d.c.b.a"}, {"e.d.c.b.a", "f.e.d.c.b.a", "e.d.c.b.a", "f.e.d.c.b.a"}, {"d.c.b.a", "f.e.d.c.b.a", "d.c.b.a", "e.d.c.b.a"}, {"f.e.d.c.b.a", "x.e.d.c.b.a", "a", "b.a"},
		{"a.a", "a.a.a", "a.a", "a.a.a"}, {"a.a", "a.a.a.a", "a.a", "a.a.a"}, {"a.a", "a", "a", "a"},
	})
}

func TestP7RulesWithoutAPeriodAhead(t *testing.T) {
	checkSuffixCases(t, []suffixCase{
		{"example", "xexample", "xexample", "xexample"}, {"b.a", "xb.a", "a", "xb.a"}, {"b.a", "c.xb.a", "a", "xb.a"}, {"b.a", "c.x-b.a", "a", "x-b.a"}, {"b.a", "x_b.a", "a", "x_b.a"},
		{"*.b.a", "c.xb.a", "a", "xb.a"}, {"*.b.a", "d.c.xb.a", "a", "xb.a"}, {"!c.b.a *.b.a", "xc.b.a", "xc.b.a", "xc.b.a"}, {"!c.b.a b.a", "x.xc.b.a", "b.a", "xc.b.a"},
		{"b.a", "b.ax", "ax", "b.ax"}, {"b.a", "b.a.x", "x", "a.x"}, {"*.b.a", "c.b.a.x", "x", "a.x"},
	})
}

func TestP7Wildcards(t *testing.T) {
	checkSuffixCases(t, []suffixCase{
		{"*.a", "a", "a", "a"}, {"*.a", "b.a", "b.a", "b.a"}, {"*.a", "c.b.a", "b.a", "c.b.a"}, {"*.a", "d.c.b.a", "b.a", "c.b.a"},
		{"*.b.a", "a", "a", "a"}, {"*.b.a", "b.a", "a", "b.a"}, {"*.b.a", "c.b.a", "c.b.a", "c.b.a"}, {"*.b.a", "d.c.b.a", "c.b.a", "d.c.b.a"}, {"*.b.a", "e.d.c.b.a", "c.b.a", "d.c.b.a"}, {"*.b.a", "x.a", "a", "x.a"},
		{"*.a a", "a", "a", "a"}, {"*.a a", "b.a", "b.a", "b.a"}, {"a *.a", "c.b.a", "b.a", "c.b.a"}, {"*.a b.a", "b.a", "b.a", "b.a"}, {"*.a c.b.a", "c.b.a", "c.b.a", "c.b.a"}, {"c.b.a *.a", "d.c.b.a", "c.b.a", "d.c.b.a"}, {"*.a c.b.a", "x.b.a", "b.a", "x.b.a"},
		{"*.a *.b.a", "c.b.a", "c.b.a", "c.b.a"}, {"*.b.a *.a", "d.c.b.a", "c.b.a", "d.c.b.a"}, {"*.b.a *.a", "b.a", "b.a", "b.a"}, {"*.a *.b.a", "d.x.a", "x.a", "d.x.a"},
		{"*.e.d.c.b.a", "f.e.d.c.b.a", "f.e.d.c.b.a", "f.e.d.c.b.a"}, {"*.e.d.c.b.a", "e.d.c.b.a", "a", "b.a"}, {"*.f.e.d.c.b.a", "f.e.d.c.b.a", "a", "b.a"}, {"*.d.c.b.a", "f.e.d.c.b.a", "e.d.c.b.a", "f.e.d.c.b.a"},
		{"*." + strings.Repeat("a", 40), strings.Repeat("a", 40), strings.Repeat("a", 40), strings.Repeat("a", 40)},
	})
}

func TestP7Exceptions(t *testing.T) {
	checkSuffixCases(t, []suffixCase{
		{"*.ck !www.ck", "www.ck", "ck", "www.ck"}, {"!www.ck *.ck", "www.ck", "ck", "www.ck"}, {"*.ck !www.ck", "z.www.ck", "ck", "www.ck"}, {"*.ck !www.ck", "y.z.www.ck", "ck", "www.ck"}, {"*.ck !www.ck", "x.ck", "x.ck", "x.ck"}, {"*.ck !www.ck", "www.x.ck", "x.ck", "www.x.ck"}, {"*.ck !www.ck", "ck", "ck", "ck"},
		{"!a", "a", "a", "a"}, {"!a", "b.a", "a", "b.a"}, {"!a", "c.b.a", "a", "b.a"}, {"!a b.a", "c.b.a", "a", "b.a"}, {"*.a !a", "c.b.a", "a", "b.a"}, {"a *.a !a", "a", "a", "a"}, {"!a", "x", "x", "x"},
		{"!b.a", "b.a", "a", "b.a"}, {"!b.a", "c.b.a", "a", "b.a"}, {"!c.b.a", "c.b.a", "b.a", "c.b.a"}, {"!c.b.a", "e.d.c.b.a", "b.a", "c.b.a"}, {"!c.b.a", "b.a", "a", "b.a"}, {"!c.b.a", "x.b.a", "a", "b.a"},
		{"!f.e.d.c.b.a", "f.e.d.c.b.a", "e.d.c.b.a", "f.e.d.c.b.a"}, {"!f.e.d.c.b.a", "e.d.c.b.a", "a", "b.a"},
		{"!a.a", "a.a.a", "a", "a.a"}, {"!a.a", "a", "a", "a"},
	})
}

func TestP7TheFirstExceptionThatApplies(t *testing.T) {
	checkSuffixCases(t, []suffixCase{
		{"!b.a !c.b.a", "c.b.a", "a", "b.a"}, {"!c.b.a !b.a", "c.b.a", "b.a", "c.b.a"}, {"!b.a !c.b.a", "d.c.b.a", "a", "b.a"}, {"!c.b.a !b.a", "d.c.b.a", "b.a", "c.b.a"}, {"!c.b.a !b.a", "x.b.a", "a", "b.a"}, {"!b.a !c.b.a", "x.b.a", "a", "b.a"},
		{"!a !d.c.b.a", "d.c.b.a", "a", "b.a"}, {"!d.c.b.a !a", "d.c.b.a", "c.b.a", "d.c.b.a"}, {"!c.b.a !a !d.c.b.a", "d.c.b.a", "b.a", "c.b.a"}, {"!x.a !d.c.b.a !a", "d.c.b.a", "c.b.a", "d.c.b.a"}, {"!x !y.a !b.a", "c.b.a", "a", "b.a"},
		{"*.a !c.b.a b.a !b.a", "d.c.b.a", "b.a", "c.b.a"}, {"*.a !b.a b.a !c.b.a", "d.c.b.a", "a", "b.a"},
	})
}

func TestP7ExceptionsAndLongerRules(t *testing.T) {
	checkSuffixCases(t, []suffixCase{
		{"!b.a c.b.a", "c.b.a", "a", "b.a"}, {"c.b.a !b.a", "c.b.a", "a", "b.a"}, {"c.b.a !b.a d.c.b.a", "e.d.c.b.a", "a", "b.a"}, {"!b.a *.c.b.a", "d.c.b.a", "a", "b.a"}, {"*.c.b.a !b.a", "e.d.c.b.a", "a", "b.a"},
		{"!b.a b.a", "b.a", "a", "b.a"}, {"b.a !b.a", "c.b.a", "a", "b.a"}, {"c.b.a !c.b.a", "c.b.a", "b.a", "c.b.a"}, {"*.b.a !b.a", "b.a", "a", "b.a"}, {"*.b.a !b.a", "c.b.a", "a", "b.a"}, {"d.c.b.a !c.b.a", "d.c.b.a", "b.a", "c.b.a"},
		{"c.b.a !x.a", "c.b.a", "c.b.a", "c.b.a"}, {"!d.c.b.a c.b.a", "c.b.a", "c.b.a", "c.b.a"}, {"!d.c.b.a c.b.a", "d.c.b.a", "c.b.a", "d.c.b.a"}, {"a !c.b.a", "c.b.a", "b.a", "c.b.a"},
	})
}

func TestP7Addresses(t *testing.T) {
	checkSuffixCases(t, []suffixCase{
		{"", "1.2.3.4", "1.2.3.4", "1.2.3.4"}, {"", "0.0.0.0", "0.0.0.0", "0.0.0.0"}, {"", "255.255.255.255", "255.255.255.255", "255.255.255.255"}, {"a", "1.2.3.4", "1.2.3.4", "1.2.3.4"},
		{"1.2.3.4", "1.2.3.4", "1.2.3.4", "1.2.3.4"}, {"*.2.3.4", "1.2.3.4", "1.2.3.4", "1.2.3.4"}, {"!1.2.3.4", "1.2.3.4", "1.2.3.4", "1.2.3.4"}, {"!3.4 4", "1.2.3.4", "1.2.3.4", "1.2.3.4"}, {"!4", "1.2.3.4", "1.2.3.4", "1.2.3.4"}, {"*.4", "1.2.3.4", "1.2.3.4", "1.2.3.4"}, {"3.4", "1.2.3.4", "1.2.3.4", "1.2.3.4"},
		{"", "1.2.3", "3", "2.3"}, {"", "x.1.2.3.4", "4", "3.4"}, {"", "256.2.3.4", "4", "3.4"}, {"", "01.2.3.4", "4", "3.4"}, {"", "1.2.3.x", "x", "3.x"},
		{"1.2.3.4", "x.1.2.3.4", "1.2.3.4", "x.1.2.3.4"}, {"1.2.3.4", "y.x.1.2.3.4", "1.2.3.4", "x.1.2.3.4"}, {"*.1.2.3.4", "x.1.2.3.4", "x.1.2.3.4", "x.1.2.3.4"}, {"*.1.2.3.4", "y.x.1.2.3.4", "x.1.2.3.4", "y.x.1.2.3.4"}, {"*.1.2.3.4", "1.2.3.4", "1.2.3.4", "1.2.3.4"}, {"!1.2.3.4", "x.1.2.3.4", "2.3.4", "1.2.3.4"},
		{"2.3.4", "x.1.2.3.4", "2.3.4", "1.2.3.4"}, {"3.4", "2.3.4", "3.4", "2.3.4"}, {"*.3.4", "y.x.1.2.3.4", "2.3.4", "1.2.3.4"},
	})
}

func TestP7SamePartyCases(t *testing.T) {
	for _, v := range []struct {
		rules, a, b string
		want        bool
	}{
		{"", "b.a", "b.a", true}, {"", "b.a", "c.b.a", true}, {"", "d.b.a", "c.b.a", true}, {"", "f.e.d.c.b.a", "b.a", true}, {"", "b.a", "c.a", false}, {"", "x.b.a", "x.c.a", false}, {"", "b.a", "b.c", false}, {"", "xb.a", "b.a", false},
		{"", "a", "b.a", false}, {"", "a", "a", true}, {"", "a", "b", false}, {"b.a", "b.a", "c.b.a", false}, {"b.a", "b.a", "a", false}, {"b.a", "x.b.a", "y.b.a", false}, {"b.a", "y.x.b.a", "x.b.a", true}, {"b.a", "x.a", "y.x.a", true}, {"b.a", "b.a", "b.a", true},
		{"*.a", "b.a", "c.b.a", false}, {"*.a", "b.a", "a", false}, {"*.a", "d.c.b.a", "c.b.a", true}, {"*.a", "x.b.a", "y.b.a", false},
		{"*.ck !www.ck", "www.ck", "z.www.ck", true}, {"*.ck !www.ck", "y.www.ck", "z.www.ck", true}, {"*.ck !www.ck", "www.ck", "x.ck", false}, {"*.ck !www.ck", "www.ck", "ck", false}, {"!a", "a", "b.a", false}, {"!a", "b.a", "c.b.a", true},
		{"", "1.2.3.4", "1.2.3.4", true}, {"", "1.2.3.4", "2.2.3.4", false}, {"", "1.2.3.4", "1.2.3.5", false}, {"", "1.2.3.4", "3.4", false}, {"", "1.2.3.4", "x.1.2.3.4", false}, {"3.4", "1.2.3.4", "5.2.3.4", false}, {"2.3.4", "x.1.2.3.4", "1.2.3.4", true}, {"1.2.3.4", "x.1.2.3.4", "1.2.3.4", false},
	} {
		for _, w := range [][2]string{{v.a, v.b}, {v.b, v.a}} {
			if got, code := impl.SameParty(words(v.rules), w[0], w[1]); got != v.want || code != 0 {
				t.Errorf("SameParty({%s}, %s, %s) = %v, %d, want %v", v.rules, w[0], w[1], got, code, v.want)
			}
		}
	}
}

// suffixHosts are all hosts of at most four labels out of two, some of them below others, and addresses.
func suffixHosts() []string {
	list := []string{"a", "b"}
	for from, n := 0, 1; n < 4; n++ {
		to := len(list)
		for _, host := range list[from:to] {
			list = append(list, "a."+host, "b."+host)
		}
		from = to
	}
	return append(list, "a.a.a.a.a", "b.a.b.a.b.a", "ab", "b.ab", "1", "2.3", "2.3.4", "1.2.3.4", "2.2.3.4", "x.1.2.3.4", "y.x.1.2.3.4", "256.1.2.3")
}

// randomRules are valid together. Most of them apply to some of suffixHosts.
func randomRules(source *rand.Rand) []string {
	hosts := suffixHosts()
	var list []string
	for range source.Intn(9) {
		rule := []string{"", "*.", "!"}[source.Intn(3)] + hosts[source.Intn(len(hosts))]
		if !slices.Contains(list, rule) {
			list = append(list, rule)
		}
	}
	return list
}

func ruleLists(count int) [][]string {
	source := rand.New(rand.NewSource(9))
	list := [][]string{nil, words("example co.ck *.ck !www.ck b.a.example")}
	for range count {
		list = append(list, randomRules(source))
	}
	return list
}

func TestP7SuffixesAgainstTails(t *testing.T) {
	for _, rules := range ruleLists(1500) {
		checkRules(t, rules, true)
		for _, host := range suffixHosts() {
			checkHostOfRules(t, rules, host)
		}
	}
}

// Two rules are enough for each of them to come first, to apply or not, and to be the longer one.
func TestP7EachTwoRules(t *testing.T) {
	var all []string
	for _, host := range words("a b.a c.b.a x.a xa 3.4 1.2.3.4") {
		all = append(all, host, "*."+host, "!"+host)
	}
	for _, first := range all {
		for _, second := range all {
			if first == second {
				continue
			}
			for _, host := range words("a b.a c.b.a d.c.b.a x.a c.x.a xa b.xa 4 3.4 2.3.4 1.2.3.4 x.1.2.3.4") {
				checkHostOfRules(t, []string{first, second}, host)
			}
		}
	}
}

func TestP7PartiesAgainstTails(t *testing.T) {
	for _, rules := range ruleLists(100) {
		for _, a := range suffixHosts() {
			for _, b := range suffixHosts() {
				want := partyByTails(rules, a) == partyByTails(rules, b)
				if got, code := impl.SameParty(rules, a, b); got != want || code != 0 {
					t.Errorf("SameParty(%s, %s, %s) = %v, %d, want %v", shownRules(rules), a, b, got, code, want)
				}
			}
		}
	}
}

func TestP7TheSuffixIsASuffixOfTheLabels(t *testing.T) {
	for _, rules := range ruleLists(1500) {
		for _, host := range suffixHosts() {
			suffix, code := impl.SuffixOf(rules, host)
			labels, _ := impl.LabelsOf(host)
			ends, suffixCode := impl.LabelsOf(suffix)
			if code != 0 || suffixCode != 0 || len(ends) > len(labels) || !slices.Equal(labels[len(labels)-len(ends):], ends) {
				t.Errorf("SuffixOf(%s, %s) = %q, %d", shownRules(rules), host, suffix, code)
			}
		}
	}
}

func TestP7ThePartyOfAPartyIsTheParty(t *testing.T) {
	for _, rules := range ruleLists(1500) {
		for _, host := range suffixHosts() {
			party, code := impl.Registrable(rules, host)
			if code == impl.ErrNone {
				party = host
			}
			again, againCode := impl.Registrable(rules, party)
			if code == impl.ErrNone && (again != "" || againCode != code) || code != impl.ErrNone && (again != party || againCode != 0) {
				t.Errorf("with %s, the party of %s is %q, %d, and the party of that is %q, %d", shownRules(rules), host, party, code, again, againCode)
			}
			if same, code := impl.SameParty(rules, host, party); !same || code != 0 {
				t.Errorf("SameParty(%s, %s, %s) = %v, %d", shownRules(rules), host, party, same, code)
			}
		}
	}
}

func TestP1HostsOfTheGreatestSizes(t *testing.T) {
	long := strings.Repeat("a", 40)
	two := strings.Repeat("b", 20) + "." + strings.Repeat("a", 19)
	for _, rules := range [][]string{nil, {long}, {"*." + long}, {"!" + long}, {two}, {"*." + two}, {"!" + two}, {"f.e.d.c.b.a"}, {"*.f.e.d.c.b.a"}, {"!f.e.d.c.b.a"}} {
		for _, host := range []string{long, two, "a", "f.e.d.c.b.a"} {
			checkHostOfRules(t, rules, host)
		}
		for _, host := range []string{long + "a", two + "a", "", "g.f.e.d.c.b.a"} {
			checkFailing(t, rules, host, "a", impl.ErrForm)
		}
	}
}

func TestP1ArgumentsThatAreNoHosts(t *testing.T) {
	rules := words("a *.b !c")
	for _, bad := range []string{"", ".", "A", "a.", ".a", "a..b", "*.b", "!c", "*", "!", "a b", "a ", "a/b", "a:1", "\x00", "\x80", "é", "1.2.3.4.", "a.b.c.d.e.f.g", strings.Repeat("a", 41), filled("", "a", impl.MaxText), filled("", ".", impl.MaxText)} {
		for _, other := range []string{"a", "1.2.3.4", "", bad} {
			checkFailing(t, rules, bad, other, impl.ErrForm)
			checkFailing(t, nil, bad, other, impl.ErrForm)
		}
	}
}

func TestP1BadRulesComeBeforeBadHosts(t *testing.T) {
	for _, rules := range [][]string{{""}, {"!"}, {"A"}, {"a", "a"}, {"a", "*.*"}, manyRules(9), manyRules(impl.MaxList), {filled("", "a", impl.MaxText+1)}, {filled("*.", "a", impl.MaxText+1), "a"}} {
		for _, host := range []string{"a", "b.a", "1.2.3.4", "", "A", "a.", filled("", "a", impl.MaxText)} {
			for _, other := range []string{"a", "", host} {
				checkFailing(t, rules, host, other, impl.ErrBad)
			}
		}
	}
}

func TestP1HostsOfMoreThanMaxTextBytes(t *testing.T) {
	for _, length := range []int{impl.MaxText + 1, 2 * impl.MaxText} {
		for _, long := range longHosts(length) {
			for _, rules := range [][]string{nil, {"a"}, {""}, {"a", "a"}, manyRules(9), manyRules(impl.MaxList)} {
				checkFailing(t, rules, long, long, impl.ErrLong)
				checkNoParty(t, rules, long, "a", impl.ErrLong)
				checkNoParty(t, rules, long, "", impl.ErrLong)
			}
		}
	}
}
