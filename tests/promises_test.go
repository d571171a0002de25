package tests

import (
	"slices"
	"strings"
	"sync"
	"testing"
	"unsafe"

	"loop.example/g00803/impl"
)

type octetResults struct {
	name, control, token, split bool
	fold, trim, before, behind  string
	word                        string
	codeOf, number, code        int
}

func callAll(s string, c byte, code int) octetResults {
	var r octetResults
	r.name, r.control, r.token = impl.NameOK(s), impl.HasControl(s), impl.IsToken(s)
	r.fold, r.trim = impl.Fold(s), impl.Trim(s)
	r.before, r.behind, r.split = impl.SplitAt(s, c)
	r.number, r.code = impl.Decimal(s)
	r.codeOf, r.word = impl.CodeOf(s), impl.CodeWord(code)
	return r
}

// promiseStrings holds ordinary strings, and those at and beyond the limits.
func promiseStrings() []string {
	list := append(randomStrings(2000), wordsOver(" \tZ-9\xc3", 4)...)
	for _, v := range codeTable {
		list = append(list, v.word)
	}
	for _, n := range []int{impl.MaxName, impl.MaxName + 1, impl.MaxText, impl.MaxText + 1} {
		for _, t := range []string{"A", "9", " ", "=", "\x7f", "\xff"} {
			list = append(list, strings.Repeat(t, n))
		}
	}
	return append(list, "", "-", "-0", "-1000000000001", " a = b ", "\tA\t")
}

type hostResults struct {
	host, address, match, path bool
	canon, labels, defaultPath string
	canonCode, labelsCode      int
}

// callHosts takes the part of s from a byte on as the domain, and the part before it as the cookie's path.
func callHosts(s string, cut int) hostResults {
	var r hostResults
	cut %= len(s) + 1
	r.host, r.address = impl.HostOK(s), impl.IsAddress(s)
	r.match, r.path = impl.DomainMatch(s, s[cut:]), impl.PathMatch(s, s[:cut])
	r.canon, r.canonCode = impl.CanonHost(s)
	r.defaultPath = impl.DefaultPath(s)
	labels, code := impl.LabelsOf(s)
	r.labels, r.labelsCode = strings.Join(labels, " "), code
	return r
}

// promiseHosts holds hosts, near misses and paths, and strings at and beyond the limits.
func promiseHosts() []string {
	list := slices.Concat(nearHosts(500), randomPaths(500), wordsOver("./aA1", 4))
	list = append(list, "1.2.3.4", "3.4", "255.255.255.255", "A.Example.", "a.example")
	for _, n := range []int{impl.MaxHost, impl.MaxHost + 1, impl.MaxText, impl.MaxText + 1} {
		for _, t := range []string{"a", "A", "1", ".", "/", "\xff"} {
			list = append(list, strings.Repeat(t, n))
		}
	}
	return list
}

type dateResults struct {
	tokens, text                                     string
	read, date                                       impl.Date
	tokensCode, readCode, seconds, weekday, textCode int
	secondsCode, weekdayCode, dateCode               int
	valid                                            bool
}

// callDates takes the date that s holds, if there is one, and otherwise one with fields from n.
func callDates(s string, n int) dateResults {
	var r dateResults
	tokens, code := impl.DateTokens(s)
	r.tokens, r.tokensCode = strings.Join(tokens, " "), code
	r.read, r.readCode = impl.ReadDate(s)
	r.date, r.dateCode = impl.DateOf(n * 123456789)
	d := r.read
	if r.readCode != 0 {
		d = impl.Date{Year: 1600 + n, Month: n % 14, Day: n % 33, Hour: n % 25}
	}
	r.valid = impl.DateOK(d)
	r.seconds, r.secondsCode = impl.Seconds(d)
	r.weekday, r.weekdayCode = impl.Weekday(d)
	r.text, r.textCode = impl.DateText(d)
	return r
}

// promiseDates holds dates, near misses, and strings at and beyond the limit.
func promiseDates() []string {
	list := slices.Concat(randomDates(500), nearDates(1000), longDates(impl.MaxText)[:3], longDates(impl.MaxText + 1)[:3])
	return append(list, "", "Thu, 01 Jan 1970 00:00:00 GMT", "29 feb 1900 1:1:1")
}

type headerResults struct {
	parsed, made                                        impl.Parsed
	text, pairs                                         string
	parsedCode, textCode, pairsCode, age, ageCode, site int
	valid                                               bool
}

// callHeaders takes the parsed header of s, if there is one, and otherwise one with s and n in its fields.
func callHeaders(s string, n int) headerResults {
	var r headerResults
	r.parsed, r.parsedCode = impl.ParseSet(s)
	pairs, code := impl.ReadPairs(s)
	r.pairs, r.pairsCode = strings.Join(pairs, ";"), code
	r.age, r.ageCode = impl.ReadAge(s)
	r.site = impl.ReadSite(s)
	r.made = r.parsed
	if r.parsedCode != 0 {
		r.made = impl.Parsed{Name: "n", Value: s, Domain: s, HasAge: n%2 == 0, Age: n, HasExpires: true, Expires: n, Site: n % 6}
	}
	r.valid = impl.ParsedOK(r.made)
	r.text, r.textCode = impl.SetText(r.made)
	return r
}

// promiseHeaders holds headers, near misses, and strings at and beyond the limit.
func promiseHeaders() []string {
	list := slices.Concat(randomHeaders(2000), wordsOver("a=; P", 4), longHeaders(impl.MaxText)[:3], longHeaders(impl.MaxText + 1)[:3])
	return append(list, "", "a=b; Secure; Path=/; Max-Age=5", "a=b; c; =d=e", "lax", "-007")
}

type suffixResults struct {
	rule, valid, suffix, same                     bool
	end, party                                    string
	endCode, suffixCode, partyCode, samePartyCode int
}

// callSuffixes takes some of promiseRules, with s among them at every third call.
func callSuffixes(s string, i int) suffixResults {
	var r suffixResults
	rules := promiseRules()[i%len(promiseRules())]
	if i%3 == 0 {
		rules = append(rules, s)
	}
	r.rule, r.valid = impl.RuleOK(s), impl.RulesOK(rules)
	r.end, r.endCode = impl.SuffixOf(rules, s)
	r.suffix, r.suffixCode = impl.IsSuffix(rules, s)
	r.party, r.partyCode = impl.Registrable(rules, s)
	r.same, r.samePartyCode = impl.SameParty(rules, s, s[len(s)/2:])
	return r
}

// promiseRules holds lists of rules that are valid together and of some that are not.
func promiseRules() [][]string {
	return [][]string{nil, {}, {"a"}, {"*.a", "!a.a"}, {"!a.example", "example", "*.example", "1"}, {"", "a"}, {"a", "a"}, manyRules(8), manyRules(9)}
}

type cookieResults struct {
	sorted, header                          string
	sortedCode, headerCode                  int
	valid, same, comes, goes, covers, other bool
}

// callCookies takes cookies that hold s, or a part of it, and one from i.
func callCookies(s string, i int) cookieResults {
	var r cookieResults
	a, b := someCookie(), cookieWith(func(c *impl.Cookie) { c.Id, c.Made, c.Used = i, i%20, i })
	switch i % 5 {
	case 0:
		a.Name, a.Value = s[:len(s)/2], s[len(s)/2:]
	case 1:
		a.Domain = s
	case 2:
		a.Path = s
	case 3:
		a.Secure, a.Path = true, "/"+s
	}
	r.valid, r.same, r.other = impl.CookieOK(a), impl.SameKey(a, b), impl.Covers(b, a)
	r.comes, r.goes, r.covers = impl.ComesFirst(a, b), impl.GoesFirst(a, b, i), impl.Covers(a, b)
	list := []impl.Cookie{a, b, fullCookie(), a}[:1+i%4]
	sorted, code := impl.SortCookies(list)
	r.sorted, r.sortedCode = shownCookies(sorted), code
	r.header, r.headerCode = impl.HeaderOf(list)
	return r
}

// checkRepeatable makes each call again, in another order and concurrently.
func checkRepeatable[R comparable](t *testing.T, list []string, call func(s string, i int) R) {
	t.Helper()
	first := make([]R, len(list))
	for i, s := range list {
		first[i] = call(s, i)
	}
	for i, s := range slices.Backward(list) {
		if call(strings.Clone(s), i) != first[i] {
			t.Errorf("other results for %s at a later call", shown(s))
		}
	}
	var group sync.WaitGroup
	for range 4 {
		group.Go(func() {
			for i, s := range list {
				if call(s, i) != first[i] {
					t.Errorf("other results for %s in concurrent calls", shown(s))
				}
			}
		})
	}
	group.Wait()
}

func TestP1EqualArgumentsYieldEqualResults(t *testing.T) {
	checkRepeatable(t, promiseStrings(), func(s string, i int) octetResults {
		return callAll(s, '=', i-100)
	})
	checkRepeatable(t, promiseHosts(), callHosts)
	checkRepeatable(t, promiseDates(), callDates)
	checkRepeatable(t, promiseHeaders(), callHeaders)
	checkRepeatable(t, append(promiseHosts(), suffixHosts()...), callSuffixes)
	checkRepeatable(t, slices.Concat(promiseHosts(), onlyHosts(nearHosts(500)), randomPaths(500), wordsOver("a= \t", 4)), callCookies)
	checkRepeatable(t, promiseTrieHosts(), callTries())
	checkRepeatable(t, randomStrings(2000), callHeaps())
	checkRepeatable(t, slices.Concat(promiseHosts()[:700], randomHeaders(1000), memoryHeaders(), onlyHosts(nearHosts(300))), callJars())
	checkRepeatable(t, slices.Concat(promiseHosts()[:700], randomPaths(500), onlyHosts(nearHosts(300))), callTells())
}

func TestP1ArgumentsAreUnchanged(t *testing.T) {
	callTrie, callJar, callTell := callTries(), callJars(), callTells()
	for _, s := range slices.Concat(promiseStrings(), promiseHosts(), promiseDates(), promiseHeaders()) {
		given := strings.Clone(s)
		callAll(given, '=', 0)
		callHosts(given, len(s)/2)
		callDates(given, len(s))
		callHeaders(given, len(s))
		callSuffixes(given, len(s))
		for i := range 5 {
			callCookies(given, i)
		}
		callTrie(given, len(s))
		callJar(given, len(s))
		callTell(given, len(s))
		if given != s {
			t.Errorf("the argument %s became %s", shown(s), shown(given))
		}
	}
}

func sharesMemory(a, b string) bool {
	if a == "" || b == "" {
		return false
	}
	start, other := uintptr(unsafe.Pointer(unsafe.StringData(a))), uintptr(unsafe.Pointer(unsafe.StringData(b)))
	return start < other+uintptr(len(b)) && other < start+uintptr(len(a))
}

func TestP1ResultsAreNewMemory(t *testing.T) {
	for _, s := range []string{"plain", "  blanks\t", "key=value", "=", "UPPER case=", strings.Repeat("a", impl.MaxText)} {
		given := strings.Clone(s)
		r := callAll(given, '=', 0)
		for _, result := range []string{r.fold, r.trim, r.before, r.behind} {
			if sharesMemory(given, result) {
				t.Errorf("the result %s shares memory with the argument %s", shown(result), shown(s))
			}
		}
	}
}

func TestP1HostResultsAreNewMemory(t *testing.T) {
	for _, s := range []string{"a.example", "single", "1.2.3.4", "A.Example.", strings.Repeat("a", impl.MaxHost), "/a/b", "//", strings.Repeat("/a", impl.MaxText/2)} {
		given := strings.Clone(s)
		canon, _ := impl.CanonHost(given)
		labels, _ := impl.LabelsOf(given)
		for _, result := range append(labels, canon, impl.DefaultPath(given)) {
			if sharesMemory(given, result) {
				t.Errorf("the result %s shares memory with the argument %s", shown(result), shown(s))
			}
		}
	}
}

func TestP1LabelsAreNewAtEachCall(t *testing.T) {
	given := "c.b.a"
	first, _ := impl.LabelsOf(given)
	clear(first)
	_ = append(first[:1], "x", "y")
	if again, code := impl.LabelsOf(given); code != 0 || !slices.Equal(again, []string{"c", "b", "a"}) {
		t.Errorf("LabelsOf(%q) = %q, %d after a change of its first result", given, again, code)
	}
}

func TestP1TokensAreNewMemory(t *testing.T) {
	for _, s := range []string{"a", "Thu, 01 Jan 1970 00:00:00 GMT", "\xff x", strings.Repeat("a", impl.MaxText)} {
		given := strings.Clone(s)
		first, _ := impl.DateTokens(given)
		want := slices.Clone(first)
		for _, token := range first {
			if sharesMemory(given, token) {
				t.Errorf("the token %s shares memory with the argument %s", shown(token), shown(s))
			}
		}
		clear(first)
		_ = append(first[:1], "x", "y")
		if again, code := impl.DateTokens(given); code != 0 || !slices.Equal(again, want) {
			t.Errorf("DateTokens(%s) = %d tokens, %d after a change of its first result", shown(s), len(again), code)
		}
	}
}

func TestP1HeaderResultsAreNewMemory(t *testing.T) {
	for _, s := range []string{"name=value; domain=a.example; path=/a/b", " v ", "value", "name=", filled("n=", "v", 101), filled("a=b; path=/x; path", ";", impl.MaxText), "a=b; c; =d=e"} {
		given := strings.Clone(s)
		p, _ := impl.ParseSet(given)
		text, _ := impl.SetText(p)
		pairs, _ := impl.ReadPairs(given)
		for _, result := range append(pairs, p.Name, p.Value, p.Domain, p.Path, text) {
			if sharesMemory(given, result) {
				t.Errorf("the result %s shares memory with the argument %s", shown(result), shown(s))
			}
		}
		for _, field := range []string{p.Name, p.Value, p.Domain, p.Path} {
			if sharesMemory(field, text) {
				t.Errorf("the text %s shares memory with its field %s", shown(text), shown(field))
			}
		}
	}
}

func TestP1PairsAreNewAtEachCall(t *testing.T) {
	given := "a=b; c; d=e"
	first, _ := impl.ReadPairs(given)
	clear(first)
	_ = append(first[:1], "x", "y")
	if again, code := impl.ReadPairs(given); code != 0 || !slices.Equal(again, []string{"a", "b", "", "c", "d", "e"}) {
		t.Errorf("ReadPairs(%q) = %q, %d after a change of its first result", given, again, code)
	}
}

func TestP1SuffixResultsAreNewMemory(t *testing.T) {
	for _, host := range []string{"a", "b.a", "c.b.a", "1.2.3.4", "f.e.d.c.b.a", strings.Repeat("a", impl.MaxHost)} {
		for _, rule := range []string{"a", "*.a", "!b.a", "c.b.a", host} {
			given, rules := strings.Clone(host), []string{strings.Clone(rule)}
			suffix, _ := impl.SuffixOf(rules, given)
			party, _ := impl.Registrable(rules, given)
			for _, result := range []string{suffix, party} {
				if sharesMemory(given, result) || sharesMemory(rules[0], result) {
					t.Errorf("the result %s shares memory with the host %s or the rule %s", shown(result), shown(host), shown(rule))
				}
			}
		}
	}
}

// The rules end before the capacity of their list, and what stands behind them is no rule.
func TestP1RulesAreUnchanged(t *testing.T) {
	for _, rules := range append(promiseRules(), ruleLists(100)...) {
		given := slices.Concat(rules, []string{"*", "z", "*"})
		want := slices.Clone(given)
		part := given[:len(rules)]
		for _, host := range []string{"a", "b.a.example", "", "1.2.3.4"} {
			impl.RulesOK(part)
			impl.SuffixOf(part, host)
			impl.IsSuffix(part, host)
			impl.Registrable(part, host)
			impl.SameParty(part, host, "c.a.example")
		}
		if !slices.Equal(given, want) {
			t.Errorf("the rules %s became %s", shownRules(want), shownRules(given))
		}
	}
}

// Fewer, other or the same rules in a call leave nothing behind for the next one.
func TestP1SuffixesDoNotDependOnEarlierRules(t *testing.T) {
	lists := append(promiseRules(), ruleLists(30)...)
	for _, first := range lists {
		for _, second := range lists {
			impl.SuffixOf(first, "c.b.a")
			suffix, code := impl.SuffixOf(second, "c.b.a")
			want, wantCode := "", impl.ErrBad
			if rulesByPairs(second) {
				want, wantCode = tailOf("c.b.a", sizeByTails(second, "c.b.a")), 0
			}
			if suffix != want || code != wantCode {
				t.Errorf("SuffixOf(%s, c.b.a) = %q, %d after a call with %s, want %q, %d", shownRules(second), suffix, code, shownRules(first), want, wantCode)
			}
		}
	}
}

// cookieWithOwnText shares no memory with constants or with another cookie.
func cookieWithOwnText(name, value string) impl.Cookie {
	return cookieWith(func(c *impl.Cookie) {
		c.Name, c.Value = strings.Clone(name), strings.Clone(value)
		c.Domain, c.Path = strings.Clone(c.Domain), strings.Clone(c.Path)
	})
}

func cookieTexts(list []impl.Cookie) []string {
	var texts []string
	for _, c := range list {
		texts = append(texts, c.Name, c.Value, c.Domain, c.Path)
	}
	return texts
}

func TestP1CookieResultsAreNewMemory(t *testing.T) {
	shared := cookieWithOwnText("n", "v")
	for _, list := range [][]impl.Cookie{
		{cookieWithOwnText("n", "v")}, {cookieWithOwnText("", "v")}, {cookieWithOwnText("n", "")}, {cookieWithOwnText("", "v"), cookieWithOwnText("", "w")},
		{shared, shared}, manyCookies(20),
	} {
		sorted, _ := impl.SortCookies(list)
		header, _ := impl.HeaderOf(list)
		texts := cookieTexts(list)
		for _, text := range texts {
			if sharesMemory(text, header) {
				t.Errorf("the header %s shares memory with the field %s", shown(header), shown(text))
			}
		}
		for _, result := range cookieTexts(sorted) {
			for _, text := range texts {
				if sharesMemory(text, result) {
					t.Errorf("the field %s of a sorted cookie shares memory with the argument or another result", shown(result))
				}
			}
			texts = append(texts, result)
		}
	}
}

func TestP1SortedCookiesAreNewAtEachCall(t *testing.T) {
	for _, list := range [][]impl.Cookie{{someCookie()}, inOrder(), manyCookies(50)} {
		given := slices.Clone(list)
		first, _ := impl.SortCookies(given)
		want := slices.Clone(first)
		clear(first)
		_ = append(first[:1], fullCookie(), fullCookie())
		if !slices.Equal(given, list) {
			t.Errorf("a change of the result of SortCookies changed its argument %s", shownCookies(list))
		}
		if again, code := impl.SortCookies(given); code != 0 || !slices.Equal(again, want) {
			t.Errorf("SortCookies(%s) = %s, %d after a change of its first result", shownCookies(list), shownCookies(again), code)
		}
	}
}

// The cookies end before the capacity of their list, and what stands behind them is no cookie.
func TestP1ListsOfCookiesAreUnchanged(t *testing.T) {
	reversed := inOrder()
	slices.Reverse(reversed)
	for _, list := range [][]impl.Cookie{nil, {someCookie()}, reversed, badCookies(), {fullCookie(), {}}} {
		given := slices.Concat(list, make([]impl.Cookie, 3), []impl.Cookie{fullCookie()})
		want := slices.Clone(given)
		_, sortCode := impl.SortCookies(given[:len(list)])
		_, headerCode := impl.HeaderOf(given[:len(list)])
		if !slices.Equal(given, want) {
			t.Errorf("the cookies %s became %s", shownCookies(want), shownCookies(given))
		}
		if code := codeByFields(list); sortCode != code || headerCode != code {
			t.Errorf("the codes of SortCookies and HeaderOf %s are %d and %d, want %d", shownCookies(list), sortCode, headerCode, code)
		}
	}
}

func TestP2FoldAndTrimAreIdempotent(t *testing.T) {
	for _, s := range append(promiseStrings(), manyStrings()...) {
		if once := impl.Fold(s); impl.Fold(once) != once {
			t.Errorf("Fold(Fold(%s)) = %s, want %s", shown(s), shown(impl.Fold(once)), shown(once))
		}
		if once := impl.Trim(s); impl.Trim(once) != once {
			t.Errorf("Trim(Trim(%s)) = %s, want %s", shown(s), shown(impl.Trim(once)), shown(once))
		}
	}
}

func TestP2FoldAndTrimKeepTheRest(t *testing.T) {
	for _, s := range promiseStrings() {
		if len(s) > impl.MaxText {
			continue
		}
		if !strings.EqualFold(impl.Fold(s), s) || len(impl.Fold(s)) != len(s) {
			t.Errorf("Fold(%s) = %s differs by more than case", shown(s), shown(impl.Fold(s)))
		}
		left, right, _ := strings.Cut(s, impl.Trim(s))
		if strings.Trim(left+right, " \t") != "" || left+impl.Trim(s)+right != s {
			t.Errorf("Trim(%s) = %s removes more than blanks at the ends", shown(s), shown(impl.Trim(s)))
		}
	}
}

func TestP2PartsMakeUpTheString(t *testing.T) {
	for _, s := range append(promiseStrings(), manyStrings()...) {
		if len(s) > impl.MaxText {
			continue
		}
		for _, c := range []byte("=; 9\x00\x7f\x80\xc3\xff") {
			a, b, ok := impl.SplitAt(s, c)
			if strings.IndexByte(a, c) >= 0 || ok != (strings.IndexByte(s, c) >= 0) {
				t.Errorf("SplitAt(%s, %d) does not split at the first such byte", shown(s), c)
			}
			whole := a
			if ok {
				whole = a + string([]byte{c}) + b
			}
			if whole != s || !ok && b != "" {
				t.Errorf("SplitAt(%s, %d) = %s, %s, %v does not make up the string", shown(s), c, shown(a), shown(b), ok)
			}
		}
	}
}
