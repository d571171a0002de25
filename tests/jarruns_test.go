package tests

import (
	"math/rand"
	"slices"
	"testing"

	"loop.example/g00803/impl"
)

// jarWords are parts of headers and requests, so few that cookies meet others of their key, their name or their party.
type jarWords struct {
	source                        *rand.Rand
	hosts, paths, pairs, contents []string
}

func newJarWords(seed int64) jarWords {
	return jarWords{
		source:   rand.New(rand.NewSource(seed)),
		hosts:    words("a.example b.a.example c.b.a.example b.example example zap a.zap q.ck z.q.ck www.ck z.www.ck 1.2.3.4 3.4 x.1.2.3.4"),
		paths:    append(words("/ /x /x/ /x/y /x/y/z // /y"), filled("/", "p", 60)),
		pairs:    append(words("a=1 a=2 a= b=1 b=2 =v v __Secure-a=1 __Host-a=1 __host-b="), "", "=", "a\n=b", filled("a=", "v", 101), filled("a=", "v", 102)),
		contents: words("Secure secure HttpOnly SameSite=None SameSite=Lax samesite=strict Path=/ Path=/x path=/x/y path=q Max-Age=0 Max-Age=-1 Max-Age=1 Max-Age=30 Max-Age=34560000 Max-Age=34560001 max-age=x Domain= Domain=.. Domain=A.example"),
	}
}

func (w jarWords) pick(list []string) string { return list[w.source.Intn(len(list))] }

func (w jarWords) chance(of int) bool { return w.source.Intn(of) == 0 }

// time is a date near the first seconds of 1970, where the runs are.
func (w jarWords) time() string {
	d, _ := impl.DateOf(w.source.Intn(300))
	text, _ := impl.DateText(d)
	return text
}

func (w jarWords) header(host string) string {
	text := w.pick(w.pairs[:len(w.pairs)-4*w.source.Intn(2)])
	for range w.source.Intn(4) {
		text += "; " + w.pick(w.contents)
	}
	switch w.source.Intn(6) {
	case 0:
		text += "; Domain=" + w.pick(w.hosts)
	case 1:
		text += "; Domain=" + host
	case 2:
		text += "; Domain=" + tailOf(host, 2)
	}
	if w.chance(4) {
		text += "; Expires=" + w.time()
	}
	if w.chance(100) && len(text) < 400 {
		text = filled(text+";", "x", 400+w.source.Intn(2))
	}
	return text
}

func (w jarWords) request() impl.Request {
	r := impl.Request{Host: w.pick(w.hosts), Path: w.pick(w.paths), Safe: !w.chance(4), Http: !w.chance(4), Same: !w.chance(3), Top: !w.chance(3)}
	if w.chance(60) {
		r.Path = w.pick([]string{"", "x", "/\n", filled("/", "p", 61)})
	}
	return r
}

func (w jarWords) jar() impl.Jar {
	rules := [][]string{jarRules(), jarRules(), nil, words("a.example"), words("!example *.example zap")}[w.source.Intn(5)]
	j, _ := impl.NewJar(rules, 1+w.source.Intn(12), 1+w.source.Intn(12))
	if w.chance(4) {
		j.Next, j.Now = 1000000000000-w.source.Intn(30), 1000000000000-w.source.Intn(30)
	}
	return j
}

// passTime also uses some cookies, as a retrieval does.
func (w jarWords) passTime(j impl.Jar) impl.Jar {
	j = copiedJar(j)
	j.Now = min(j.Now+w.source.Intn(20), 1000000000000)
	for i := range j.Cookies {
		if w.chance(3) {
			j.Cookies[i].Used = j.Now
		}
	}
	return j
}

// runs calls the function with each header of many runs and the jar before it, and takes the jar from it.
func runs(seed int64, count int, step func(w jarWords, j impl.Jar, r impl.Request, header string) impl.Jar) {
	w := newJarWords(seed)
	for range count {
		j := w.jar()
		for range 40 {
			if w.chance(4) {
				j = w.passTime(j)
			}
			r := w.request()
			j = step(w, j, r, w.header(r.Host))
		}
	}
}

func TestP11RunsAgainstLists(t *testing.T) {
	told, codes, full := map[int]int{}, map[int]int{}, 0
	runs(21, 800, func(w jarWords, j impl.Jar, r impl.Request, header string) impl.Jar {
		next, outcome, code := checkStore(t, j, r, header)
		codes[code]++
		if code == 0 {
			told[outcome]++
		}
		if code == impl.ErrBad {
			return j
		}
		if len(next.Cookies) == next.Limit {
			full++
		}
		return next
	})
	for _, code := range []int{0, impl.ErrBad, impl.ErrNone, impl.ErrSize, impl.ErrDomain, impl.ErrSuffix, impl.ErrSecure, impl.ErrHttp, impl.ErrSite, impl.ErrPrefix} {
		if told[code] < 50 {
			t.Errorf("only %d headers have the outcome %d", told[code], code)
		}
	}
	for _, code := range []int{0, impl.ErrBad, impl.ErrSize, impl.ErrFull} {
		if codes[code] < 20 {
			t.Errorf("only %d headers have the code %d", codes[code], code)
		}
	}
	if full < 2000 {
		t.Errorf("the jar is full after %d headers only", full)
	}
}

func TestP11SeveralHeadersAgainstLists(t *testing.T) {
	codes := map[int]int{}
	runs(22, 150, func(w jarWords, j impl.Jar, r impl.Request, header string) impl.Jar {
		headers := []string{header}
		for range w.source.Intn(14) - 1 {
			headers = append(headers, w.header(r.Host))
		}
		next, _, code := checkStoreMany(t, j, r, headers)
		codes[code]++
		if code == impl.ErrBad {
			return j
		}
		return next
	})
	for _, code := range []int{0, impl.ErrBad, impl.ErrMany, impl.ErrSize, impl.ErrFull} {
		if codes[code] < 20 {
			t.Errorf("only %d calls of StoreMany have the code %d", codes[code], code)
		}
	}
}

// What is in a jar after a run was set by a host that its Domain matches, and for a public suffix by that host itself.
func TestP12HostsThatSetTheCookiesOfARun(t *testing.T) {
	hosts := map[int]string{}
	set, suffixes := 0, 0
	runs(23, 500, func(w jarWords, j impl.Jar, r impl.Request, header string) impl.Jar {
		next, told, code := impl.StoreHeader(j, r, header)
		if code != 0 {
			return j
		}
		if len(j.Cookies) == 0 {
			clear(hosts)
		}
		if told == 0 {
			hosts[j.Next] = r.Host
		}
		for _, c := range next.Cookies {
			set++
			if !matchByLabels(hosts[c.Id], c.Domain) {
				t.Errorf("the cookie %s was set by %q", shownCookie(c), hosts[c.Id])
			}
			if !suffixByTails(j.Rules, c.Domain) {
				continue
			}
			suffixes++
			if !c.HostOnly || c.Domain != hosts[c.Id] {
				t.Errorf("the cookie %s for a public suffix was set by %q", shownCookie(c), hosts[c.Id])
			}
		}
		return next
	})
	if set < 10000 || suffixes < 1000 {
		t.Errorf("the jars have %d cookies, %d of them for public suffixes", set, suffixes)
	}
}

// Unless a cookie is replaced, expires or is one too many, it stays, whatever headers come.
func TestP12CookiesStay(t *testing.T) {
	stayed := 0
	runs(24, 500, func(w jarWords, j impl.Jar, r impl.Request, header string) impl.Jar {
		next, told, code := impl.StoreHeader(j, r, header)
		if code != 0 {
			return j
		}
		var gone []impl.Cookie
		for _, c := range j.Cookies {
			if slices.Contains(next.Cookies, c) {
				stayed++
			} else {
				gone = append(gone, c)
			}
		}
		p, _ := impl.ParseSet(header)
		c, _ := impl.CookieFrom(j, r, p)
		if len(gone) > 2 || len(gone) > 0 && told != 0 {
			t.Errorf("the header %s with the outcome %d removes %s", shown(header), told, shownCookies(gone))
		}
		for _, other := range gone {
			isNeeded := len(j.Cookies) == j.Limit || partyCount(j, c) == j.PerParty
			if keyText(other) != keyText(c) && !(c.Expires > 0 && isNeeded) {
				t.Errorf("the header %s removes %s from %s", shown(header), shownCookie(other), shownJar(j))
			}
		}
		return next
	})
	if stayed < 10000 {
		t.Errorf("only %d cookies stay", stayed)
	}
}

func partyCount(j impl.Jar, c impl.Cookie) int {
	count := 0
	for _, other := range j.Cookies {
		if sameParties(j, other, c) {
			count++
		}
	}
	return count
}
