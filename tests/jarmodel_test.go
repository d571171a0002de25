package tests

import (
	"slices"
	"strconv"
	"strings"
	"testing"

	"loop.example/g00803/impl"
)

// The tests compare the jar with the functions of this file, which use none of the program's.

func suffixByTails(rules []string, host string) bool {
	return tailOf(host, sizeByTails(rules, host)) == host && !addressForm.MatchString(host)
}

func sameParties(j impl.Jar, a, b impl.Cookie) bool {
	return partyByTails(j.Rules, a.Domain) == partyByTails(j.Rules, b.Domain)
}

func cookieInJar(j impl.Jar, c impl.Cookie) bool {
	closed := suffixByTails(j.Rules, c.Domain) || addressForm.MatchString(c.Domain)
	return c.Id < j.Next && c.Used <= j.Now && (c.HostOnly || !closed)
}

func jarByFields(j impl.Jar) bool {
	limits := j.Limit > 0 && j.Limit <= 12 && j.PerParty > 0 && j.PerParty <= 12
	times := j.Now >= 0 && j.Now <= 1000000000000 && j.Next > 0 && j.Next <= 1000000000000
	if !rulesByPairs(j.Rules) || !limits || !times || len(j.Cookies) > j.Limit {
		return false
	}
	for i, c := range j.Cookies {
		if !cookieByFields(c) || !cookieInJar(j, c) {
			return false
		}
		party := 1
		for _, other := range j.Cookies[:i] {
			if other.Id >= c.Id || keyText(other) == keyText(c) {
				return false
			}
			if sameParties(j, other, c) {
				party++
			}
		}
		if party > j.PerParty {
			return false
		}
	}
	return true
}

func requestByFields(r impl.Request) bool {
	return hostByForm(r.Host) && r.Path != "" && r.Path[0] == '/' && len(r.Path) <= 60 && !controlByBytes(r.Path)
}

func parsedByText(p impl.Parsed) bool {
	back, code := parseByLast(textByFields(p))
	return back == p && code == 0
}

func domainBySteps(rules []string, host, domain string) (string, bool, int) {
	switch {
	case domain == "":
		return host, true, 0
	case !hostByForm(domain):
		return "", false, impl.ErrDomain
	case suffixByTails(rules, domain) && domain != host:
		return "", false, impl.ErrSuffix
	case suffixByTails(rules, domain):
		return host, true, 0
	case !matchByLabels(host, domain):
		return "", false, impl.ErrDomain
	}
	return domain, addressForm.MatchString(domain), 0
}

func expiresBySteps(now int, p impl.Parsed) int {
	expires := impl.Forever
	if p.HasExpires {
		expires = p.Expires
	}
	if p.HasAge {
		expires = now + p.Age
	}
	if p.HasExpires || p.HasAge {
		expires = min(expires, now+34560000)
	}
	if expires <= now {
		return 0
	}
	return expires
}

// requestCodes are the codes of step 4 that hold, in order.
func requestCodes(c impl.Cookie, r impl.Request, p impl.Parsed) []int {
	name := foldByBytes(c.Name)
	secureName := strings.HasPrefix(name, "__secure-") && !c.Secure
	hostName := strings.HasPrefix(name, "__host-") && !(c.Secure && c.HostOnly && p.HasPath && p.Path == "/")
	site := c.Site == 1 && !c.Secure || c.Site != 1 && !(r.Same || r.Top)
	var codes []int
	for _, v := range []struct {
		holds bool
		code  int
	}{{c.Secure && !r.Safe, 13}, {c.HttpOnly && !r.Http, 14}, {site, 15}, {secureName || hostName, 16}} {
		if v.holds {
			codes = append(codes, v.code)
		}
	}
	return codes
}

// lasting is the same cookie as if it had not expired.
func lasting(c impl.Cookie) impl.Cookie {
	c.Expires = impl.Forever
	return c
}

// cookieBySteps needs valid arguments.
func cookieBySteps(j impl.Jar, r impl.Request, p impl.Parsed) (impl.Cookie, int) {
	domain, hostOnly, code := domainBySteps(j.Rules, r.Host, p.Domain)
	if code != 0 {
		return impl.Cookie{}, code
	}
	path := p.Path
	if !p.HasPath {
		path = defaultByBytes(r.Path)
	}
	c := impl.Cookie{Id: j.Next, Name: p.Name, Value: p.Value, Domain: domain, Path: path, HostOnly: hostOnly, Secure: p.Secure, HttpOnly: p.HttpOnly, Site: p.Site, Expires: expiresBySteps(j.Now, p), Made: j.Now, Used: j.Now}
	if codes := requestCodes(c, r, p); len(codes) > 0 {
		return impl.Cookie{}, codes[0]
	}
	made := j.Now
	for _, old := range j.Cookies {
		if !c.Secure && !r.Safe && coversByLists(old, lasting(c)) {
			return impl.Cookie{}, impl.ErrSecure
		}
		if keyText(old) != keyText(c) {
			continue
		}
		if old.HttpOnly && !r.Http {
			return impl.Cookie{}, impl.ErrHttp
		}
		made = old.Made
	}
	c.Made = made
	return c, 0
}

// withoutFirst removes the first cookie to go of those that are counted, but not the last one, if they are too many.
func withoutFirst(list []impl.Cookie, limit, now int, counts func(c impl.Cookie) bool) []impl.Cookie {
	first, count := -1, 0
	for i, c := range list {
		if !counts(c) {
			continue
		}
		count++
		if i < len(list)-1 && (first < 0 || slices.Compare(evictionRanks(c, now), evictionRanks(list[first], now)) < 0) {
			first = i
		}
	}
	if count <= limit {
		return list
	}
	return slices.Concat(list[:first], list[first+1:])
}

func insertByLists(j impl.Jar, c impl.Cookie) impl.Jar {
	var list []impl.Cookie
	for _, old := range j.Cookies {
		if keyText(old) != keyText(c) {
			list = append(list, old)
		}
	}
	if c.Expires > 0 {
		list = append(list, c)
		list = withoutFirst(list, j.PerParty, j.Now, func(other impl.Cookie) bool { return sameParties(j, c, other) })
		list = withoutFirst(list, j.Limit, j.Now, func(impl.Cookie) bool { return true })
	}
	j.Next, j.Cookies = j.Next+1, list
	return j
}

func storeByLists(j impl.Jar, r impl.Request, header string) (impl.Jar, int, int) {
	switch {
	case len(header) > 65536:
		return impl.Jar{}, 0, impl.ErrLong
	case !jarByFields(j) || !requestByFields(r):
		return impl.Jar{}, 0, impl.ErrBad
	case len(header) > 400:
		return j, 0, impl.ErrSize
	case j.Next == 1000000000000:
		return j, 0, impl.ErrFull
	}
	p, code := parseByLast(header)
	if code != 0 {
		return j, code, 0
	}
	c, code := cookieBySteps(j, r, p)
	if code != 0 {
		return j, code, 0
	}
	return insertByLists(j, c), 0, 0
}

func storeManyByLists(j impl.Jar, r impl.Request, headers []string) (impl.Jar, []int, int) {
	long := slices.ContainsFunc(headers, func(s string) bool { return len(s) > 400 })
	switch {
	case len(headers) > 4096:
		return impl.Jar{}, nil, impl.ErrLong
	case !jarByFields(j) || !requestByFields(r):
		return impl.Jar{}, nil, impl.ErrBad
	case len(headers) > 12:
		return j, nil, impl.ErrMany
	case long:
		return j, nil, impl.ErrSize
	case j.Next > 1000000000000-12:
		return j, nil, impl.ErrFull
	}
	var told []int
	for _, header := range headers {
		next, code, _ := storeByLists(j, r, header)
		j, told = next, append(told, code)
	}
	return j, told, 0
}

func equalJars(a, b impl.Jar) bool {
	return slices.Equal(a.Rules, b.Rules) && a.Limit == b.Limit && a.PerParty == b.PerParty && a.Now == b.Now && a.Next == b.Next && slices.Equal(a.Cookies, b.Cookies)
}

func copiedJar(j impl.Jar) impl.Jar {
	j.Rules, j.Cookies = slices.Clone(j.Rules), slices.Clone(j.Cookies)
	return j
}

func shownJar(j impl.Jar) string {
	text := "[" + shownRules(j.Rules)
	for _, n := range []int{j.Limit, j.PerParty, j.Now, j.Next} {
		text += " " + strconv.Itoa(n)
	}
	return text + " " + shownCookies(j.Cookies) + "]"
}

func shownRequest(r impl.Request) string {
	text := shown(r.Host) + " " + shown(r.Path)
	for _, b := range []bool{r.Safe, r.Http, r.Same, r.Top} {
		text += " " + strconv.FormatBool(b)
	}
	return "(" + text + ")"
}

func checkCookieFrom(t *testing.T, j impl.Jar, r impl.Request, p impl.Parsed) (impl.Cookie, int) {
	t.Helper()
	want, wantCode := impl.Cookie{}, impl.ErrBad
	if jarByFields(j) && requestByFields(r) && parsedByText(p) {
		want, wantCode = cookieBySteps(j, r, p)
	}
	given := copiedJar(j)
	got, code := impl.CookieFrom(given, r, p)
	if got != want || code != wantCode {
		t.Errorf("CookieFrom(%s, %s, %s) = %s, %d, want %s, %d", shownJar(j), shownRequest(r), shownParsed(p), shownCookie(got), code, shownCookie(want), wantCode)
	}
	if !equalJars(given, j) {
		t.Errorf("CookieFrom changes the jar %s", shownJar(j))
	}
	return got, code
}

// checkStore also checks the promises 11 and 12 for the header. It returns what StoreHeader does.
func checkStore(t *testing.T, j impl.Jar, r impl.Request, header string) (impl.Jar, int, int) {
	t.Helper()
	given := copiedJar(j)
	got, told, code := impl.StoreHeader(given, r, header)
	want, wantTold, wantCode := storeByLists(j, r, header)
	if !equalJars(got, want) || told != wantTold || code != wantCode {
		t.Errorf("StoreHeader(%s, %s, %s) = %s, %d, %d, want %s, %d, %d", shownJar(j), shownRequest(r), shown(header), shownJar(got), told, code, shownJar(want), wantTold, wantCode)
	}
	if !equalJars(given, j) {
		t.Errorf("StoreHeader of %s changes its jar %s", shown(header), shownJar(j))
	}
	if code == impl.ErrLong || code == impl.ErrBad {
		return got, told, code
	}
	if !impl.JarOK(got) {
		t.Errorf("after the header %s the jar %s is not valid", shown(header), shownJar(got))
	}
	if (told != 0 || code != 0) && !impl.SameJar(got, j) {
		t.Errorf("with the codes %d and %d the header %s changes %s to %s", told, code, shown(header), shownJar(j), shownJar(got))
	}
	if told == 0 && code == 0 {
		checkAccepted(t, j, got, r, header)
	}
	return got, told, code
}

// checkAccepted checks what a header that was accepted has left in the jar.
func checkAccepted(t *testing.T, before, after impl.Jar, r impl.Request, header string) {
	t.Helper()
	p, code := impl.ParseSet(header)
	c, cookieCode := impl.CookieFrom(before, r, p)
	if code != 0 || cookieCode != 0 || after.Next != before.Next+1 {
		t.Errorf("the header %s is accepted, but ParseSet and CookieFrom have the codes %d and %d, and Next is %d after %d", shown(header), code, cookieCode, after.Next, before.Next)
	}
	same := slices.DeleteFunc(slices.Clone(after.Cookies), func(other impl.Cookie) bool { return keyText(other) != keyText(c) })
	if c.Expires > 0 && !slices.Equal(same, []impl.Cookie{c}) || c.Expires == 0 && len(same) > 0 {
		t.Errorf("the cookie %s of the header %s leaves %s of its key in the jar", shownCookie(c), shown(header), shownCookies(same))
	}
	if suffixByTails(before.Rules, c.Domain) && !(c.HostOnly && c.Domain == r.Host) {
		t.Errorf("the header %s from %s sets the cookie %s for a public suffix", shown(header), r.Host, shownCookie(c))
	}
}

func checkStoreMany(t *testing.T, j impl.Jar, r impl.Request, headers []string) (impl.Jar, []int, int) {
	t.Helper()
	given, list := copiedJar(j), slices.Clone(headers)
	got, told, code := impl.StoreMany(given, r, list)
	want, wantTold, wantCode := storeManyByLists(j, r, headers)
	if !equalJars(got, want) || !slices.Equal(told, wantTold) || code != wantCode {
		t.Errorf("StoreMany(%s, %s, %s) = %s, %d, %d, want %s, %d, %d", shownJar(j), shownRequest(r), shownRules(headers), shownJar(got), told, code, shownJar(want), wantTold, wantCode)
	}
	if !equalJars(given, j) || !slices.Equal(list, headers) {
		t.Errorf("StoreMany changes the jar %s or the headers %s", shownJar(j), shownRules(headers))
	}
	if code != impl.ErrLong && code != impl.ErrBad && !impl.JarOK(got) {
		t.Errorf("after the headers %s the jar %s is not valid", shownRules(headers), shownJar(got))
	}
	return got, told, code
}
