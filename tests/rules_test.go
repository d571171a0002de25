package tests

import (
	"regexp"
	"slices"
	"strconv"
	"strings"
	"testing"

	"loop.example/g00803/impl"
)

var ruleForm = regexp.MustCompile(`^(?:\*\.|!)?([a-z0-9_-]+(?:\.[a-z0-9_-]+){0,5})$`)

func ruleByForm(t string) bool {
	parts := ruleForm.FindStringSubmatch(t)
	return parts != nil && len(parts[1]) <= 40
}

func rulesByPairs(list []string) bool {
	for i, rule := range list {
		if !ruleByForm(rule) || slices.Contains(list[:i], rule) {
			return false
		}
	}
	return len(list) <= 8
}

func checkRule(t *testing.T, s string) {
	t.Helper()
	want := ruleByForm(s)
	if got := impl.RuleOK(s); got != want {
		t.Errorf("RuleOK(%s) = %v, want %v", shown(s), got, want)
	}
	if got := impl.RulesOK([]string{s}); got != want {
		t.Errorf("RulesOK of %s alone = %v, want %v", shown(s), got, want)
	}
}

func shownRules(list []string) string {
	if len(list) > 20 {
		return strconv.Itoa(len(list)) + " rules"
	}
	var parts []string
	for _, rule := range list {
		parts = append(parts, shown(rule))
	}
	return "{" + strings.Join(parts, " ") + "}"
}

// checkRules also makes sure that the other functions take exactly the lists that RulesOK takes.
func checkRules(t *testing.T, list []string, want bool) {
	t.Helper()
	if got := impl.RulesOK(list); got != want || got != rulesByPairs(list) {
		t.Errorf("RulesOK(%s) = %v, want %v", shownRules(list), got, want)
	}
	code := impl.ErrBad
	if want {
		code = 0
	}
	if suffix, got := impl.SuffixOf(list, "x.y"); got != code || (suffix == "") == want {
		t.Errorf("SuffixOf(%s, x.y) = %q, %d, want the code %d", shownRules(list), suffix, got, code)
	}
	if _, got := impl.IsSuffix(list, "x.y"); got != code {
		t.Errorf("the code of IsSuffix(%s, x.y) is %d, want %d", shownRules(list), got, code)
	}
	// An address has a party with all rules.
	if party, got := impl.Registrable(list, "1.2.3.4"); got != code || (party == "") == want {
		t.Errorf("Registrable(%s, 1.2.3.4) = %q, %d, want the code %d", shownRules(list), party, got, code)
	}
	if same, got := impl.SameParty(list, "x.y", "x.y"); got != code || same != want {
		t.Errorf("SameParty(%s, x.y, x.y) = %v, %d, want the code %d", shownRules(list), same, got, code)
	}
}

func TestP7RuleCases(t *testing.T) {
	a := func(n int) string { return strings.Repeat("a", n) }
	for _, v := range []struct {
		t    string
		want bool
	}{
		{"a", true}, {"example", true}, {"co.ck", true}, {"-", true}, {"_.0", true}, {"1.2.3.4", true},
		{"*.a", true}, {"*.co.ck", true}, {"*.-", true}, {"*.1.2.3.4", true},
		{"!a", true}, {"!www.ck", true}, {"!_", true}, {"!1.2.3.4", true},
		{"", false}, {"!", false}, {"*", false}, {"*.", false}, {".", false}, {"!.", false}, {"*..", false}, {"**", false},
		{"!*.a", false}, {"*.!a", false}, {"!*", false}, {"*!", false}, {"*!.a", false}, {"!*a", false}, {"*!a", false}, {"!*.", false}, {"*.!", false},
		{"!!a", false}, {"*.*.a", false}, {"**.a", false}, {"*.*", false}, {"!!", false}, {"*.*.", false},
		{"a!", false}, {"a.*", false}, {"a*.", false}, {"a.*.b", false}, {"a.!b", false}, {"a*", false}, {"!a!", false}, {"*.a.*", false}, {"a.*.", false},
		{"*a", false}, {".a", false}, {"!.a", false}, {"*..a", false}, {"*.a.", false}, {"!a.", false}, {"a.", false}, {"!a..b", false}, {"*.a..b", false}, {"*,a", false},
		{"A", false}, {"*.A", false}, {"!A", false}, {"a.B", false}, {"*.a.B", false}, {"!a.B", false},
		{" a", false}, {" *.a", false}, {" !a", false}, {"! a", false}, {"*. a", false}, {"* .a", false}, {"a ", false}, {"a b", false}, {"*.a ", false}, {"!a ", false}, {"\x00", false}, {"!a\n", false}, {"*.\x80", false}, {"é", false}, {"!\xff", false}, {"*\u3002a", false}, {"\uff01a", false},
		{a(40), true}, {"*." + a(40), true}, {"!" + a(40), true}, {a(41), false}, {"*." + a(41), false}, {"!" + a(41), false},
		{a(20) + "." + a(19), true}, {"*." + a(20) + "." + a(19), true}, {"!" + a(20) + "." + a(19), true}, {"*." + a(20) + "." + a(20), false}, {"!" + a(20) + "." + a(20), false},
		{"a.b.c.d.e.f", true}, {"*.a.b.c.d.e.f", true}, {"!a.b.c.d.e.f", true}, {"a.b.c.d.e.f.g", false}, {"*.a.b.c.d.e.f.g", false}, {"!a.b.c.d.e.f.g", false},
	} {
		if got := impl.RuleOK(v.t); got != v.want {
			t.Errorf("RuleOK(%s) = %v, want %v", shown(v.t), got, v.want)
		}
		checkRule(t, v.t)
	}
}

func TestP7RulesAgainstForms(t *testing.T) {
	for _, s := range slices.Concat(manyStrings(), wordsOver("*.!aA", 6), nearHosts(3000)) {
		for _, sign := range []string{"", "*.", "!", "*", "."} {
			checkRule(t, sign+s)
		}
	}
}

func TestP1RuleTextsAboutMaxTextBytes(t *testing.T) {
	for _, length := range []int{impl.MaxText, impl.MaxText + 1, 2 * impl.MaxText} {
		for _, s := range append(longHosts(length), filled("*.", "a", length), filled("!", "a", length), filled("*.", "*.", length/2), filled("", "!", length), filled("", "*", length)) {
			if impl.RuleOK(s) || impl.RulesOK([]string{s}) || impl.RulesOK([]string{"a", s}) {
				t.Errorf("RuleOK or RulesOK is true for %s", shown(s))
			}
		}
	}
}

func TestP7NumbersOfRules(t *testing.T) {
	if impl.MaxRules != 8 {
		t.Errorf("MaxRules is %d", impl.MaxRules)
	}
	list := []string{"a", "*.a", "!a", "b.a", "*.b.a", "!b.a", "example", "*.ck", "co.ck"}
	for n := range len(list) + 1 {
		checkRules(t, list[:n], n <= 8)
	}
	for i := range list {
		checkRules(t, slices.Delete(slices.Clone(list), i, i+1), true)
	}
	checkRules(t, nil, true)
	checkRules(t, []string{}, true)
	checkRules(t, make([]string, 0, 20), true)
	for _, n := range []int{9, 10, 100, impl.MaxList - 1, impl.MaxList} {
		checkRules(t, manyRules(n), false)
		checkRules(t, make([]string, n), false)
		checkRules(t, slices.Repeat([]string{"a"}, n), false)
	}
}

// manyRules are different hosts.
func manyRules(count int) []string {
	var list []string
	for n := range count {
		list = append(list, "r"+strconv.Itoa(n))
	}
	return list
}

func TestP7ARuleTwice(t *testing.T) {
	for count := 2; count <= 8; count++ {
		for _, rule := range []string{"a", "*.a", "!a", "r.b.c"} {
			for first := range count {
				for second := range first {
					list := manyRules(count)
					list[first], list[second] = rule, strings.Clone(rule)
					checkRules(t, list, false)
				}
			}
		}
	}
	checkRules(t, []string{"a", "a", "a"}, false)
	checkRules(t, []string{"a", "b", "a", "b"}, false)
	checkRules(t, []string{"a", "b", "b", "a"}, false)
}

func TestP7RulesThatDifferInTheirSignAlone(t *testing.T) {
	for _, host := range []string{"a", "x.y", "1.2.3.4", "a.b.c.d.e.f"} {
		signed := []string{host, "*." + host, "!" + host}
		checkRules(t, signed, true)
		for i := range signed {
			checkRules(t, slices.Delete(slices.Clone(signed), i, i+1), true)
			checkRules(t, append(slices.Clone(signed), signed[i]), false)
		}
	}
	checkRules(t, []string{"a", "aa", "a.a", "a-a", "*.a.a", "!a.a"}, true)
}

func TestP7ABadRuleAtEachPlace(t *testing.T) {
	for count := 1; count <= 8; count++ {
		for place := range count {
			for _, bad := range []string{"", "!", "*", "*.", "A", "a.", "!*.a", "*.*.a", "!!a", "a.*", "a b", "\xff", "*.a.b.c.d.e.f.g", strings.Repeat("a", 41), strings.Repeat("a", impl.MaxText+1)} {
				list := manyRules(count)
				list[place] = bad
				checkRules(t, list, false)
			}
		}
	}
}

func TestP1ListsOfMoreThanMaxListRules(t *testing.T) {
	for _, n := range []int{impl.MaxList + 1, 2 * impl.MaxList} {
		for _, list := range [][]string{manyRules(n), make([]string, n), slices.Repeat([]string{"a"}, n)} {
			if impl.RulesOK(list) {
				t.Errorf("RulesOK is true for %d rules", n)
			}
			for _, host := range []string{"a", "", "A", strings.Repeat("a", impl.MaxText+1)} {
				checkFailing(t, list, host, host, impl.ErrLong)
			}
		}
	}
}
