package tests

import (
	"slices"
	"strconv"
	"strings"
	"testing"
	"unsafe"

	"loop.example/g00803/impl"
)

type jarResults struct {
	valid, same, request                     bool
	made, stored, many, outcomes, from, late string
	madeCode, told, storedCode, manyCode     int
	fromCode, lateCode                       int
}

func callJarFunctions(j impl.Jar, r impl.Request, header string) jarResults {
	var all jarResults
	all.valid, all.same, all.request = impl.JarOK(j), impl.SameJar(j, j), impl.RequestOK(r)
	made, code := impl.NewJar(j.Rules, j.Limit, j.PerParty)
	all.made, all.madeCode = shownJar(made), code
	stored, told, code := impl.StoreHeader(j, r, header)
	all.stored, all.told, all.storedCode = shownJar(stored), told, code
	many, outcomes, code := impl.StoreMany(j, r, []string{header, "a=b", header})
	all.many, all.outcomes, all.manyCode = shownJar(many), shownTrie(leaf("", outcomes...)), code
	p, _ := impl.ParseSet(header)
	from, code := impl.CookieFrom(j, r, p)
	all.from, all.fromCode = shownCookie(from), code
	late, code := impl.Advance(j, len(header))
	all.late, all.lateCode = shownJar(late), code
	return all
}

// memoryJars are valid and not, empty and full, and at the limits of Next.
func memoryJars() []impl.Jar {
	list := []impl.Jar{{}, someJar(), emptyJar(), partyJar(), atLimits(partyJar(), 4, 2), jarOf(old(3, unchanged)), jarWithNext(1000000000000), jarWithNext(1000000000000 - 11), {Limit: 1, PerParty: 1, Next: 1}}
	for _, change := range []jarChange{func(j *impl.Jar) { j.Next = 3 }, func(j *impl.Jar) { j.Rules = append(j.Rules, "") }, func(j *impl.Jar) { j.Cookies[0].Path = "" }} {
		j := someJar()
		change(&j)
		list = append(list, j)
	}
	return list
}

func memoryRequests() []impl.Request {
	return []impl.Request{someRequest(), requestWith(func(r *impl.Request) { r.Host, r.Safe, r.Http = "c.a.example", false, false }), requestWith(func(r *impl.Request) { r.Host = "q.ck" }), {Host: "1.2.3.4", Path: "/", Same: true}, {}}
}

func memoryHeaders() []string {
	return []string{"a=b", "sid=1; domain=a.example; path=/", "a=; max-age=0", "=v; path=/q; httponly; secure", "n=", "", "a=b; domain=x y", "a=b; samesite=none", filled("a=b;", " ", 400), filled("a=b;", " ", 401), filled("a=b;", " ", impl.MaxText+1)}
}

// callJars takes the same jars in all calls, so that a call that changes one shows in the next.
func callJars() func(s string, i int) jarResults {
	jars, requests := memoryJars(), memoryRequests()
	return func(s string, i int) jarResults {
		r := requests[i%len(requests)]
		switch i % 7 {
		case 0:
			r.Host = s
		case 1:
			r.Path = "/" + s
		case 2:
			s = "a=b; domain=" + s
		}
		return callJarFunctions(jars[i%len(jars)], r, s)
	}
}

// withSpareJar is the same jar with strings of its own, and with a rule and a cookie behind the end of each slice.
func withSpareJar(j impl.Jar) impl.Jar {
	rules, cookies := slices.Clone(j.Rules), slices.Clone(j.Cookies)
	for i := range rules {
		rules[i] = strings.Clone(rules[i])
	}
	for i, c := range cookies {
		cookies[i].Name, cookies[i].Value = strings.Clone(c.Name), strings.Clone(c.Value)
		cookies[i].Domain, cookies[i].Path = strings.Clone(c.Domain), strings.Clone(c.Path)
	}
	j.Rules = append(rules, "spare", "*.spare")[:len(rules)]
	j.Cookies = append(cookies, fullCookie(), impl.Cookie{}, someCookie())[:len(cookies)]
	return j
}

func shownSpare(j impl.Jar) string {
	j.Rules, j.Cookies = j.Rules[:cap(j.Rules)], j.Cookies[:cap(j.Cookies)]
	return shownJar(j)
}

func stringSpan(s string) span {
	from := uintptr(unsafe.Pointer(unsafe.StringData(s)))
	return span{from, from + uintptr(len(s))}
}

// jarSpans returns the memory of each slice and of each string of the jar.
func jarSpans(j impl.Jar) []span {
	list := []span{spanOf(j.Rules), spanOf(j.Cookies)}
	for _, s := range append(slices.Clone(j.Rules), cookieTexts(j.Cookies)...) {
		list = append(list, stringSpan(s))
	}
	return slices.DeleteFunc(list, func(a span) bool { return a.from == a.to })
}

func requestSpans(r impl.Request, texts ...string) []span {
	var list []span
	for _, s := range append(texts, r.Host, r.Path) {
		list = append(list, stringSpan(s))
	}
	return slices.DeleteFunc(list, func(a span) bool { return a.from == a.to })
}

// checkJarUnchanged makes the calls with a jar that has spare capacity.
func checkJarUnchanged(t *testing.T, j impl.Jar, calls func(given impl.Jar)) {
	t.Helper()
	given := withSpareJar(j)
	before := shownSpare(given)
	calls(given)
	if after := shownSpare(given); after != before {
		t.Errorf("the jar and its spare capacity %s became %s", before, after)
	}
}

func TestP1JarsAreUnchanged(t *testing.T) {
	for _, j := range memoryJars() {
		checkJarUnchanged(t, j, func(given impl.Jar) {
			for _, r := range memoryRequests() {
				for _, header := range memoryHeaders() {
					callJarFunctions(given, r, header)
					impl.SameJar(given, someJar())
					impl.SameJar(someJar(), given)
					impl.CookieFrom(given, r, impl.Parsed{})
				}
			}
		})
	}
}

func TestP1HeadersOfAJarAreUnchanged(t *testing.T) {
	for _, j := range memoryJars() {
		for _, size := range []int{0, 1, len(memoryHeaders()) - 2, len(memoryHeaders())} {
			given := append(memoryHeaders()[:size], "spare", "a=spare")
			before := slices.Clone(given)
			impl.StoreMany(j, someRequest(), given[:size])
			if !slices.Equal(given, before) {
				t.Errorf("the headers %s became %s", shownRules(before), shownRules(given))
			}
		}
	}
}

// checkApart checks that no two of the memories of one result are the same, and none is that of an argument.
func checkApart(t *testing.T, what string, spans, arguments []span) {
	t.Helper()
	if anyOverlap(arguments, spans) {
		t.Errorf("%s shares memory with an argument", what)
	}
	for i, a := range spans {
		if anyOverlap([]span{a}, spans[i+1:]) {
			t.Errorf("two slices or strings of %s share memory", what)
		}
	}
}

func checkNewJar(t *testing.T, what string, result impl.Jar, arguments []span) {
	t.Helper()
	checkApart(t, "the jar "+shownJar(result)+" of "+what, jarSpans(result), arguments)
}

func ownRequest(r impl.Request) impl.Request {
	r.Host, r.Path = strings.Clone(r.Host), strings.Clone(r.Path)
	return r
}

func TestP1JarResultsAreNewMemory(t *testing.T) {
	for _, j := range memoryJars() {
		for _, r := range memoryRequests() {
			for _, header := range memoryHeaders() {
				given, request, text := withSpareJar(j), ownRequest(r), strings.Clone(header)
				headers := []string{text, text, strings.Clone("x=y; path=/q"), text}
				arguments := slices.Concat(jarSpans(given), requestSpans(request, headers...), []span{spanOf(headers)})
				stored, _, _ := impl.StoreHeader(given, request, text)
				checkNewJar(t, "StoreHeader", stored, arguments)
				many, told, _ := impl.StoreMany(given, request, headers)
				checkNewJar(t, "StoreMany", many, append(arguments, jarSpans(stored)...))
				if anyOverlap(slices.Concat(arguments, jarSpans(many)), []span{spanOf(told)}) {
					t.Error("the outcomes of StoreMany share memory with something else")
				}
				late, _ := impl.Advance(given, 5)
				checkNewJar(t, "Advance", late, arguments)
				made, _ := impl.NewJar(given.Rules, given.Limit, given.PerParty)
				checkNewJar(t, "NewJar", made, arguments)
			}
		}
	}
}

func TestP1CookiesFromAJarAreNewMemory(t *testing.T) {
	for _, r := range memoryRequests()[:4] {
		for _, p := range []impl.Parsed{{Name: strings.Clone("n"), Value: strings.Clone("v"), Site: 4, Secure: true}, {Name: strings.Clone("n"), Domain: strings.Clone("a.example"), HasPath: true, Path: strings.Clone("/q"), Site: 4}, {Value: strings.Clone("v"), Domain: strings.Clone("q.ck"), Site: 4}} {
			given, request := withSpareJar(someJar()), ownRequest(r)
			c, _ := impl.CookieFrom(given, request, p)
			arguments := append(jarSpans(given), requestSpans(request, p.Name, p.Value, p.Domain, p.Path)...)
			if anyOverlap(arguments, jarSpans(impl.Jar{Cookies: []impl.Cookie{c}})) {
				t.Errorf("the cookie %s shares memory with an argument", shownCookie(c))
			}
		}
	}
}

func clearJar(j impl.Jar) {
	clear(j.Rules[:cap(j.Rules)])
	clear(j.Cookies[:cap(j.Cookies)])
}

func TestP1JarResultsAreNewAtEachCall(t *testing.T) {
	for _, j := range memoryJars() {
		for _, r := range memoryRequests() {
			for _, header := range memoryHeaders() {
				given := withSpareJar(j)
				want, before := callJarFunctions(given, r, header), shownSpare(given)
				stored, _, _ := impl.StoreHeader(given, r, header)
				many, told, _ := impl.StoreMany(given, r, []string{header, header})
				late, _ := impl.Advance(given, 5)
				made, _ := impl.NewJar(given.Rules, given.Limit, given.PerParty)
				for _, result := range []impl.Jar{stored, many, late, made} {
					clearJar(result)
				}
				clear(told[:cap(told)])
				if callJarFunctions(given, r, header) != want || shownSpare(given) != before {
					t.Errorf("a change of the results for the jar %s and the header %s changes later ones", shownJar(j), shown(header))
				}
			}
		}
	}
}

func TestP1JarsOfNilAndEmptySlices(t *testing.T) {
	empty := impl.Jar{Rules: []string{}, Limit: 1, PerParty: 1, Next: 1, Cookies: []impl.Cookie{}}
	for _, r := range memoryRequests() {
		for _, header := range memoryHeaders() {
			if callJarFunctions(impl.Jar{Limit: 1, PerParty: 1, Next: 1}, r, header) != callJarFunctions(empty, r, header) {
				t.Errorf("nil and empty slices in a jar differ for the header %s", shown(header))
			}
		}
	}
	for _, headers := range [][]string{nil, {}} {
		if j, told, code := impl.StoreMany(someJar(), someRequest(), headers); !equalJars(j, someJar()) || len(told) != 0 || code != 0 {
			t.Errorf("StoreMany of no headers = %s, %v, %d", shownJar(j), told, code)
		}
	}
}

// A jar of another session leaves nothing behind for the next call.
func TestP1JarsDoNotDependOnEarlierCalls(t *testing.T) {
	jars := memoryJars()
	for i, j := range jars {
		for _, r := range memoryRequests() {
			want := callJarFunctions(j, r, "a="+strconv.Itoa(i))
			for _, other := range jars {
				callJarFunctions(other, r, "a=1; domain=a.example")
				if callJarFunctions(j, r, "a="+strconv.Itoa(i)) != want {
					t.Errorf("other results for %s after a call with %s", shownJar(j), shownJar(other))
				}
			}
		}
	}
}
