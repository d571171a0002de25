package tests

import (
	"slices"
	"strings"
	"testing"

	"loop.example/g00803/impl"
)

type retrievalResults struct {
	sent, after, header, pairs     string
	sentCode, afterCode, pairsCode int
	reason, reasonCode             int
	matches                        bool
}

// callRetrievals also asks for the reason of the first cookie of the jar.
func callRetrievals(j impl.Jar, r impl.Request, now int) retrievalResults {
	var all retrievalResults
	sent, code := impl.CookiesFor(j, r)
	all.sent, all.sentCode = shownCookies(sent), code
	after, header, code := impl.Retrieve(j, r)
	all.after, all.header, all.afterCode = shownJar(after), header, code
	pairs, code := impl.PairsFor(j, r)
	all.pairs, all.pairsCode = strings.Join(pairs, ";"), code
	c := someCookie()
	if len(j.Cookies) > 0 {
		c = j.Cookies[0]
	}
	all.reason, all.reasonCode = impl.WhyNot(c, r, now)
	all.matches = impl.Matches(c, r, now)
	return all
}

func retrievalJars() []impl.Jar {
	nameless := jarOf(pathCookie(2, "", "v", "/", 10), pathCookie(3, "n", "", "/", 10))
	one := jarOf(pathCookie(2, "", "v", "/", 10))
	return append(memoryJars(), tellJar(), one, nameless)
}

func retrievalRequests() []impl.Request {
	return append(memoryRequests(), requestWith(func(r *impl.Request) { r.Host, r.Path = "c.b.a.example", "/" }), requestWith(func(r *impl.Request) { r.Path = "/x/y/z" }))
}

// callTells takes the same jars in all calls, so that a call that changes one shows in the next.
func callTells() func(s string, i int) retrievalResults {
	jars, requests := retrievalJars(), retrievalRequests()
	return func(s string, i int) retrievalResults {
		r := requests[i%len(requests)]
		switch i % 7 {
		case 0:
			r.Host = s
		case 1:
			r.Path = "/" + s
		}
		return callRetrievals(jars[i%len(jars)], r, len(s)+i)
	}
}

func TestP1JarsOfRetrievalsAreUnchanged(t *testing.T) {
	for _, j := range retrievalJars() {
		checkJarUnchanged(t, j, func(given impl.Jar) {
			for _, r := range retrievalRequests() {
				callRetrievals(given, r, 100)
			}
		})
	}
}

// textSpans returns the memory of a slice of strings and of each of them.
func textSpans(texts []string) []span {
	list := []span{spanOf(texts)}
	for _, s := range texts {
		list = append(list, stringSpan(s))
	}
	return slices.DeleteFunc(list, func(a span) bool { return a.from == a.to })
}

func TestP1ResultsOfRetrievalsAreNewMemory(t *testing.T) {
	for _, j := range retrievalJars() {
		for _, r := range retrievalRequests() {
			given, request := withSpareJar(j), ownRequest(r)
			arguments := append(jarSpans(given), requestSpans(request)...)
			sent, _ := impl.CookiesFor(given, request)
			checkApart(t, "CookiesFor", jarSpans(impl.Jar{Cookies: sent}), arguments)
			after, header, _ := impl.Retrieve(given, request)
			checkApart(t, "Retrieve", append(jarSpans(after), textSpans([]string{header})...), arguments)
			pairs, _ := impl.PairsFor(given, request)
			checkApart(t, "PairsFor", textSpans(pairs), arguments)
		}
	}
}

func TestP1ResultsOfRetrievalsAreNewAtEachCall(t *testing.T) {
	for _, j := range retrievalJars() {
		for _, r := range retrievalRequests() {
			given := withSpareJar(j)
			want, before := callRetrievals(given, r, 100), shownSpare(given)
			sent, _ := impl.CookiesFor(given, r)
			after, _, _ := impl.Retrieve(given, r)
			pairs, _ := impl.PairsFor(given, r)
			clear(sent[:cap(sent)])
			clear(pairs[:cap(pairs)])
			clearJar(after)
			if callRetrievals(given, r, 100) != want || shownSpare(given) != before {
				t.Errorf("a change of the results for the jar %s and the request %s changes later ones", shownJar(j), shownRequest(r))
			}
		}
	}
}

func TestP1RetrievalsOfNilAndEmptySlices(t *testing.T) {
	for _, change := range []func(j *impl.Jar, rules []string, cookies []impl.Cookie){
		func(j *impl.Jar, rules []string, cookies []impl.Cookie) { j.Rules = rules },
		func(j *impl.Jar, rules []string, cookies []impl.Cookie) { j.Cookies = cookies },
		func(j *impl.Jar, rules []string, cookies []impl.Cookie) { j.Rules, j.Cookies = rules, cookies },
	} {
		none, empty := tellJar(), tellJar()
		change(&none, nil, nil)
		change(&empty, []string{}, []impl.Cookie{})
		for _, r := range retrievalRequests() {
			if callRetrievals(none, r, 100) != callRetrievals(empty, r, 100) {
				t.Errorf("nil and empty slices differ in the jar %s for the request %s", shownJar(none), shownRequest(r))
			}
		}
	}
}

// A retrieval from another jar, or one that uses the cookies of this one, leaves nothing behind for the next call.
func TestP1RetrievalsDoNotDependOnEarlierCalls(t *testing.T) {
	jars := retrievalJars()
	for _, j := range jars {
		for _, r := range retrievalRequests() {
			want := callRetrievals(j, r, 100)
			for _, other := range jars {
				late, _ := impl.Advance(other, 7)
				callRetrievals(late, r, 107)
				if callRetrievals(j, r, 100) != want {
					t.Errorf("other results for %s after a call with %s", shownJar(j), shownJar(late))
				}
			}
		}
	}
}
