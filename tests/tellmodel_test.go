package tests

import (
	"slices"
	"testing"

	"loop.example/g00803/impl"
)

// The tests compare the retrieval with the functions of this file, which use none of the program's.

// reasonsByFields are all the reasons that hold, in the order in which they are checked.
func reasonsByFields(c impl.Cookie, r impl.Request, now int) []int {
	foreign := !matchByLabels(r.Host, c.Domain) || c.HostOnly && c.Domain != r.Host
	across := c.Site != 1 && !r.Same && (c.Site == 3 || !r.Top)
	var codes []int
	for _, v := range []struct {
		holds bool
		code  int
	}{{c.Expires <= now, 10}, {foreign, 12}, {!matchByPrefixes(r.Path, c.Path), 3}, {c.Secure && !r.Safe, 13}, {c.HttpOnly && !r.Http, 14}, {across, 15}} {
		if v.holds {
			codes = append(codes, v.code)
		}
	}
	return codes
}

func whyByFields(c impl.Cookie, r impl.Request, now int) (int, int) {
	if !cookieByFields(c) || !requestByFields(r) {
		return 0, impl.ErrBad
	}
	return append(reasonsByFields(c, r, now), 0)[0], 0
}

func sentByLists(j impl.Jar, r impl.Request) ([]impl.Cookie, int) {
	if !jarByFields(j) || !requestByFields(r) {
		return nil, impl.ErrBad
	}
	var list []impl.Cookie
	for _, c := range j.Cookies {
		if len(reasonsByFields(c, r, j.Now)) == 0 {
			list = append(list, c)
		}
	}
	return sortByInsertion(list), 0
}

func retrieveByLists(j impl.Jar, r impl.Request) (impl.Jar, string, int) {
	sent, code := sentByLists(j, r)
	if code != 0 {
		return impl.Jar{}, "", code
	}
	after := copiedJar(j)
	for i, c := range j.Cookies {
		if slices.Contains(sent, c) {
			after.Cookies[i].Used = j.Now
		}
	}
	return after, headerByFields(sent), 0
}

func pairsByLists(list []impl.Cookie) []string {
	var pairs []string
	for _, c := range list {
		pairs = append(pairs, c.Name, c.Value)
	}
	return pairs
}

// checkWhy returns what WhyNot does.
func checkWhy(t *testing.T, c impl.Cookie, r impl.Request, now int) (int, int) {
	t.Helper()
	got, code := impl.WhyNot(c, r, now)
	want, wantCode := whyByFields(c, r, now)
	if got != want || code != wantCode {
		t.Errorf("WhyNot(%s, %s, %d) = %d, %d, want %d, %d", shownCookie(c), shownRequest(r), now, got, code, want, wantCode)
	}
	if is := impl.Matches(c, r, now); is != (want == 0 && wantCode == 0) {
		t.Errorf("Matches(%s, %s, %d) = %v", shownCookie(c), shownRequest(r), now, is)
	}
	return got, code
}

// checkReason expects a reason, or with 0 that the cookie is sent.
func checkReason(t *testing.T, c impl.Cookie, r impl.Request, now, want int) {
	t.Helper()
	if got, code := checkWhy(t, c, r, now); got != want || code != 0 {
		t.Errorf("WhyNot(%s, %s, %d) = %d, %d, want %d", shownCookie(c), shownRequest(r), now, got, code, want)
	}
}

// checkRetrieval also checks the promise 13 for the request. It returns what CookiesFor and Retrieve do.
func checkRetrieval(t *testing.T, j impl.Jar, r impl.Request) ([]impl.Cookie, impl.Jar, string, int) {
	t.Helper()
	given := copiedJar(j)
	list, listCode := impl.CookiesFor(given, r)
	after, header, code := impl.Retrieve(given, r)
	pairs, pairsCode := impl.PairsFor(given, r)
	want, _ := sentByLists(j, r)
	wantAfter, wantHeader, wantCode := retrieveByLists(j, r)
	if !slices.Equal(list, want) || listCode != wantCode {
		t.Errorf("CookiesFor(%s, %s) = %s, %d, want %s, %d", shownJar(j), shownRequest(r), shownCookies(list), listCode, shownCookies(want), wantCode)
	}
	if !equalJars(after, wantAfter) || header != wantHeader || code != wantCode {
		t.Errorf("Retrieve(%s, %s) = %s, %s, %d, want %s, %s, %d", shownJar(j), shownRequest(r), shownJar(after), shown(header), code, shownJar(wantAfter), shown(wantHeader), wantCode)
	}
	if !slices.Equal(pairs, pairsByLists(want)) || pairsCode != wantCode {
		t.Errorf("PairsFor(%s, %s) = %q, %d, want %q, %d", shownJar(j), shownRequest(r), pairs, pairsCode, pairsByLists(want), wantCode)
	}
	if !equalJars(given, j) {
		t.Errorf("a retrieval for %s changes its jar %s to %s", shownRequest(r), shownJar(j), shownJar(given))
	}
	if code == 0 {
		checkSent(t, j, after, r, list)
	}
	return list, after, header, code
}

// checkSent checks that the cookies of the list are those of the jar that match the request, and that the jar stays valid.
func checkSent(t *testing.T, before, after impl.Jar, r impl.Request, list []impl.Cookie) {
	t.Helper()
	for _, c := range before.Cookies {
		if impl.Matches(c, r, before.Now) != slices.Contains(list, c) {
			t.Errorf("%s matches %s: %v, but is sent: %v", shownCookie(c), shownRequest(r), impl.Matches(c, r, before.Now), slices.Contains(list, c))
		}
	}
	for _, c := range list {
		if !slices.Contains(before.Cookies, c) {
			t.Errorf("%s is sent, but not in the jar %s", shownCookie(c), shownJar(before))
		}
	}
	if !impl.JarOK(after) {
		t.Errorf("after the retrieval for %s the jar %s is not valid", shownRequest(r), shownJar(after))
	}
}
