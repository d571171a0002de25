package tests

import (
	"math"
	"slices"
	"strings"
	"testing"

	"loop.example/g00803/impl"
)

func jarRules() []string { return words("example *.ck !www.ck") }

func cookieOf(id int, name, domain string, hostOnly bool) impl.Cookie {
	return impl.Cookie{Id: id, Name: name, Value: "v", Domain: domain, Path: "/", HostOnly: hostOnly, Site: impl.SiteDefault, Expires: impl.Forever, Made: 10, Used: 90}
}

// someJar is valid. It has its Limit of cookies, two of them of one party, which is full too; one has expired, and one is used at Now.
func someJar() impl.Jar {
	list := []impl.Cookie{cookieOf(2, "sid", "a.example", false), cookieOf(5, "sid", "b.a.example", true), cookieOf(9, "sid", "q.ck", true)}
	list[1].Expires, list[2].Used = 100, 100
	return impl.Jar{Rules: jarRules(), Limit: 3, PerParty: 2, Now: 100, Next: 10, Cookies: list}
}

func emptyJar() impl.Jar {
	return impl.Jar{Rules: jarRules(), Limit: 12, PerParty: 6, Now: 100, Next: 20}
}

func jarOf(list ...impl.Cookie) impl.Jar {
	j := emptyJar()
	j.Cookies = list
	return j
}

func someRequest() impl.Request {
	return impl.Request{Host: "b.a.example", Path: "/x/y", Safe: true, Http: true, Same: true, Top: true}
}

type jarChange func(j *impl.Jar)

type requestChange func(r *impl.Request)

func requestWith(change requestChange) impl.Request {
	r := someRequest()
	change(&r)
	return r
}

// checkArguments checks that all functions take the jar and the request, or that none does.
func checkArguments(t *testing.T, j impl.Jar, r impl.Request, want bool) {
	t.Helper()
	for _, header := range []string{"a=b", "", "a\n=b", "a=b; domain=x y", filled("a", "b", impl.MaxHeader+1)} {
		if _, _, code := checkStore(t, j, r, header); (code == impl.ErrBad) == want {
			t.Errorf("StoreHeader(%s, %s, %s) has the code %d", shownJar(j), shownRequest(r), shown(header), code)
		}
		for _, count := range []int{0, 1, impl.MaxCookies, impl.MaxCookies + 1} {
			headers := slices.Repeat([]string{header}, count)
			if _, _, code := checkStoreMany(t, j, r, headers); (code == impl.ErrBad) == want {
				t.Errorf("StoreMany(%s, %s, %s) has the code %d", shownJar(j), shownRequest(r), shownRules(headers), code)
			}
		}
	}
	for _, p := range []impl.Parsed{plain("a", "b"), with(func(p *impl.Parsed) { p.Domain = "x y" })} {
		if _, code := checkCookieFrom(t, j, r, p); (code == impl.ErrBad) == want {
			t.Errorf("CookieFrom(%s, %s, %s) has the code %d", shownJar(j), shownRequest(r), shownParsed(p), code)
		}
	}
}

// checkJar also makes sure that the other functions take exactly the jars that JarOK takes.
func checkJar(t *testing.T, j impl.Jar, want bool) {
	t.Helper()
	if got := impl.JarOK(j); got != want || got != jarByFields(j) {
		t.Errorf("JarOK(%s) = %v, want %v", shownJar(j), got, want)
	}
	if got := impl.SameJar(j, copiedJar(j)); got != want {
		t.Errorf("SameJar of %s and a copy is %v", shownJar(j), got)
	}
	checkArguments(t, j, someRequest(), want)
}

func checkJarChanges(t *testing.T, start func() impl.Jar, want bool, changes ...jarChange) {
	t.Helper()
	for _, change := range changes {
		j := start()
		change(&j)
		checkJar(t, j, want)
	}
}

func TestP1JarLimits(t *testing.T) {
	if impl.MaxCookies != 12 || impl.AgeCap != 34560000 || impl.MaxHeader != 400 || impl.MaxPath != 60 {
		t.Error("limits of jars", impl.MaxCookies, impl.AgeCap, impl.MaxHeader, impl.MaxPath)
	}
}

func TestP11NewJars(t *testing.T) {
	for _, v := range []struct {
		rules           []string
		limit, perParty int
		code            int
	}{
		{jarRules(), 12, 6, 0}, {nil, 1, 1, 0}, {[]string{}, 12, 12, 0}, {manyRules(8), 12, 1, 0}, {words("!a a *.a"), 1, 12, 0}, {words("b a"), 3, 7, 0},
		{nil, 0, 1, impl.ErrRange}, {nil, 1, 0, impl.ErrRange}, {nil, 13, 1, impl.ErrRange}, {nil, 1, 13, impl.ErrRange}, {nil, 0, 0, impl.ErrRange}, {jarRules(), 13, 13, impl.ErrRange}, {nil, -1, 1, impl.ErrRange}, {nil, 1, -1, impl.ErrRange},
		{nil, math.MaxInt, 1, impl.ErrRange}, {nil, 1, math.MaxInt, impl.ErrRange}, {nil, math.MinInt, 1, impl.ErrRange}, {nil, 1, math.MinInt, impl.ErrRange}, {nil, 1<<32 + 1, 1, impl.ErrRange}, {nil, 1, 257, impl.ErrRange},
		{[]string{""}, 12, 6, impl.ErrBad}, {words("a a"), 12, 6, impl.ErrBad}, {manyRules(9), 12, 6, impl.ErrBad}, {words("a *.*"), 12, 6, impl.ErrBad}, {words("A"), 1, 1, impl.ErrBad},
		{[]string{""}, 0, 0, impl.ErrBad}, {words("a a"), 13, 1, impl.ErrBad}, {manyRules(9), 1, 0, impl.ErrBad}, {manyRules(impl.MaxList), 0, 13, impl.ErrBad},
		{manyRules(impl.MaxList + 1), 12, 6, impl.ErrLong}, {manyRules(impl.MaxList + 1), 0, 0, impl.ErrLong}, {make([]string, impl.MaxList+1), 0, 13, impl.ErrLong},
		{[]string{filled("", "a", impl.MaxText+1)}, 0, 1, impl.ErrBad},
	} {
		want := impl.Jar{}
		if v.code == 0 {
			want = impl.Jar{Rules: v.rules, Limit: v.limit, PerParty: v.perParty, Next: 1}
		}
		got, code := impl.NewJar(v.rules, v.limit, v.perParty)
		if !equalJars(got, want) || code != v.code || impl.JarOK(got) != (v.code == 0) {
			t.Errorf("NewJar(%s, %d, %d) = %s, %d, want %s, %d", shownRules(v.rules), v.limit, v.perParty, shownJar(got), code, shownJar(want), v.code)
		}
	}
}

func TestP11LimitsOfNewJars(t *testing.T) {
	for limit := -2; limit <= 15; limit++ {
		for perParty := -2; perParty <= 15; perParty++ {
			want := impl.ErrRange
			if limit >= 1 && limit <= 12 && perParty >= 1 && perParty <= 12 {
				want = 0
			}
			if j, code := impl.NewJar(jarRules(), limit, perParty); code != want || impl.JarOK(j) != (want == 0) {
				t.Errorf("NewJar with the limits %d and %d = %s, %d, want %d", limit, perParty, shownJar(j), code, want)
			}
		}
	}
}

func TestP11JarsThatAreValid(t *testing.T) {
	checkJarChanges(t, emptyJar, true,
		func(j *impl.Jar) {},
		func(j *impl.Jar) { j.Now, j.Next = 0, 1 },
		func(j *impl.Jar) { j.Now, j.Next = 1, 2 },
		func(j *impl.Jar) { j.Now = 1000000000000 },
		func(j *impl.Jar) { j.Next = 1000000000000 },
		func(j *impl.Jar) { j.Limit, j.PerParty = 1, 12 },
		func(j *impl.Jar) { j.Rules = nil },
		func(j *impl.Jar) { j.Cookies = []impl.Cookie{} },
	)
	checkJarChanges(t, someJar, true,
		func(j *impl.Jar) {},
		func(j *impl.Jar) { j.Limit, j.PerParty = 12, 12 },
		func(j *impl.Jar) { j.Now, j.Next = 1000000000000, 1000000000000 },
		func(j *impl.Jar) { j.Cookies[2].Id, j.Next = 999999999999, 1000000000000 },
		func(j *impl.Jar) { j.Cookies[0].Id = 1 },
		func(j *impl.Jar) { j.Cookies[0].Id = 4 },
		func(j *impl.Jar) { j.Cookies[0].Used = 100 },
		func(j *impl.Jar) { j.Cookies[0].Made, j.Cookies[0].Used = 100, 100 },
		func(j *impl.Jar) { j.Cookies[0].Expires = 1 },
		func(j *impl.Jar) { j.Cookies[0].Domain = "b.a.example" },
		func(j *impl.Jar) { j.Cookies[1].Domain = "a.example" },
		func(j *impl.Jar) { j.Cookies[2].Domain, j.Cookies[2].HostOnly = "www.ck", false },
		func(j *impl.Jar) { j.Cookies[2].Domain = "1.2.3.4" },
		func(j *impl.Jar) { j.Cookies[2].Domain = "example" },
		func(j *impl.Jar) { j.Cookies = j.Cookies[:2] },
		func(j *impl.Jar) { j.Cookies, j.Limit, j.PerParty = j.Cookies[:1], 1, 1 },
		func(j *impl.Jar) { j.Cookies[1].Domain, j.PerParty = "b.example", 1 },
	)
}

func TestP11JarsThatAreNotValid(t *testing.T) {
	checkJar(t, impl.Jar{}, false)
	for _, start := range []func() impl.Jar{emptyJar, someJar} {
		checkJarChanges(t, start, false,
			func(j *impl.Jar) { j.Rules = []string{""} },
			func(j *impl.Jar) { j.Rules = words("example *.ck !www.ck example") },
			func(j *impl.Jar) { j.Rules = append(j.Rules, manyRules(6)...) },
			func(j *impl.Jar) { j.Rules = append(j.Rules, manyRules(impl.MaxList)...) },
			func(j *impl.Jar) { j.Rules = append(j.Rules, filled("", "a", impl.MaxText+1)) },
			func(j *impl.Jar) { j.Limit = 0 },
			func(j *impl.Jar) { j.Limit = 13 },
			func(j *impl.Jar) { j.PerParty = 0 },
			func(j *impl.Jar) { j.PerParty = 13 },
			func(j *impl.Jar) { j.Now = -1 },
			func(j *impl.Jar) { j.Now = 1000000000001 },
			func(j *impl.Jar) { j.Next = 0 },
			func(j *impl.Jar) { j.Next = 1000000000001 },
		)
	}
	checkJarChanges(t, someJar, false,
		func(j *impl.Jar) { j.Limit = 2 },
		func(j *impl.Jar) { j.PerParty = 1 },
		func(j *impl.Jar) { j.Now = 99 },
		func(j *impl.Jar) { j.Cookies[2].Used = 101 },
		func(j *impl.Jar) { j.Cookies[0].Made, j.Cookies[0].Used = 101, 101 },
		func(j *impl.Jar) { j.Next = 9 },
		func(j *impl.Jar) { j.Next = 8 },
		func(j *impl.Jar) { j.Cookies[2].Id = 10 },
		func(j *impl.Jar) { j.Cookies[0].Id = 5 },
		func(j *impl.Jar) { j.Cookies[0].Id = 6 },
		func(j *impl.Jar) { j.Cookies[1].Id = 9 },
		func(j *impl.Jar) { slices.Reverse(j.Cookies) },
		func(j *impl.Jar) { j.Cookies[1].Domain, j.Cookies[1].HostOnly = "a.example", false },
		func(j *impl.Jar) { j.Cookies[2].Domain = "b.a.example" },
		func(j *impl.Jar) { j.Cookies[2].Domain, j.Cookies[2].Path = "c.a.example", "/q" },
		func(j *impl.Jar) { j.Cookies[2].HostOnly = false },
		func(j *impl.Jar) { j.Cookies[0].Domain = "example" },
		func(j *impl.Jar) { j.Cookies[0].Domain = "zap" },
		func(j *impl.Jar) { j.Cookies[0].Domain = "1.2.3.4" },
		func(j *impl.Jar) { j.Rules = words("a.example") },
		func(j *impl.Jar) { j.Rules = words("*.example") },
	)
}

// A Domain that is a public suffix or an address goes with HostOnly alone, and the other ones with both.
func TestP11DomainsOfCookiesInAJar(t *testing.T) {
	for _, host := range words("a.example b.a.example www.ck z.www.ck z.q.ck 3.4 x.1.2.3.4 256.2.3.4") {
		checkJar(t, jarOf(cookieOf(1, "n", host, false)), true)
		checkJar(t, jarOf(cookieOf(1, "n", host, true)), true)
	}
	for _, host := range words("example ck q.ck zap 1 1.2.3.4 0.0.0.0") {
		checkJar(t, jarOf(cookieOf(1, "n", host, false)), false)
		checkJar(t, jarOf(cookieOf(1, "n", host, true)), true)
	}
}

func TestP11CookiesOfAJarAreValid(t *testing.T) {
	for _, bad := range badCookies() {
		for place := range 3 {
			j := someJar()
			j.Now = 1000000000000
			bad.Id = []int{2, 5, 9}[place]
			if j.Cookies[place] = bad; cookieByFields(bad) {
				continue
			}
			checkJar(t, j, false)
		}
	}
	for _, id := range []int{0, -1, 1000000000000, 1000000000001, math.MaxInt, math.MinInt} {
		checkJar(t, jarOf(cookieOf(id, "n", "a.example", false)), false)
	}
}

// keyedCookie differs from others only in what makes up the key, and in its Id.
func keyedCookie(id int, name, domain, path string, hostOnly bool) impl.Cookie {
	c := cookieOf(id, name, domain, hostOnly)
	c.Path = path
	return c
}

func TestP11NoTwoCookiesHaveOneKey(t *testing.T) {
	for _, v := range []struct {
		c    impl.Cookie
		want bool
	}{
		{keyedCookie(2, "n", "a.example", "/", false), false}, {keyedCookie(2, "n", "a.example", "/", true), true}, {keyedCookie(2, "m", "a.example", "/", false), true},
		{keyedCookie(2, "n", "b.example", "/", false), true}, {keyedCookie(2, "n", "a.example", "/q", false), true}, {keyedCookie(2, "N", "a.example", "/", false), true}, {keyedCookie(2, "", "a.example", "/", false), true},
	} {
		first, other := keyedCookie(1, "n", "a.example", "/", false), v.c
		other.Value, other.Expires, other.Secure = "w", 5, true
		checkJar(t, jarOf(first, other), v.want)
		middle := keyedCookie(2, "middle", "c.example", "/", true)
		other.Id = 3
		checkJar(t, jarOf(first, middle, other), v.want)
	}
}

// partyCookies have Domains of one party, and different names.
func partyCookies(from, count int) []impl.Cookie {
	var list []impl.Cookie
	for i := range count {
		domain := []string{"a.example", "b.a.example", "c.a.example", "c.b.a.example"}[i%4]
		list = append(list, cookieOf(from+i, strings.Repeat("n", from+i), domain, i%3 == 0))
	}
	return list
}

func TestP11CookiesOfOneParty(t *testing.T) {
	for perParty := 1; perParty <= 12; perParty++ {
		for count := 0; count <= 12; count++ {
			j := jarOf(partyCookies(1, count)...)
			j.PerParty = perParty
			checkJar(t, j, count <= perParty)
			if count < 12 {
				j.Cookies = append(j.Cookies, cookieOf(15, "n", "zap", true))
				checkJar(t, j, count <= perParty)
			}
		}
	}
}

func TestP11CookiesUpToTheLimit(t *testing.T) {
	for limit := 1; limit <= 12; limit++ {
		for _, count := range []int{0, 1, limit - 1, limit, limit + 1, 12, 13} {
			j := jarOf(partyCookies(1, count)...)
			j.Limit, j.PerParty = limit, 12
			checkJar(t, j, count <= limit)
		}
	}
	j := jarOf(partyCookies(1, 13)...)
	j.PerParty = 12
	checkJar(t, j, false)
	j = jarOf(manyCookies(2 * impl.MaxList)...)
	checkJar(t, j, false)
}

func TestP1AnyIntegerInAJar(t *testing.T) {
	for _, n := range []int{0, 1, -1, 2, 3, 9, 10, 11, 12, 13, 20, 99, 100, 101, 257, 1<<32 + 5, impl.MaxDecimal - 12, impl.MaxDecimal - 11, impl.MaxDecimal - 1, impl.MaxDecimal, impl.MaxDecimal + 1, impl.Forever, -impl.MaxDecimal, math.MaxInt - 12, math.MaxInt, math.MinInt} {
		for _, start := range []func() impl.Jar{emptyJar, someJar} {
			for _, change := range []jarChange{
				func(j *impl.Jar) { j.Limit = n },
				func(j *impl.Jar) { j.PerParty = n },
				func(j *impl.Jar) { j.Now = n },
				func(j *impl.Jar) { j.Next = n },
				func(j *impl.Jar) { j.Now, j.Next = n, n },
			} {
				j := start()
				change(&j)
				checkJar(t, j, jarByFields(j))
			}
		}
	}
}

func checkRequest(t *testing.T, r impl.Request, want bool) {
	t.Helper()
	if got := impl.RequestOK(r); got != want || got != requestByFields(r) {
		t.Errorf("RequestOK(%s) = %v, want %v", shownRequest(r), got, want)
	}
	checkArguments(t, emptyJar(), r, want)
}

func TestP11Requests(t *testing.T) {
	checkRequest(t, someRequest(), true)
	checkRequest(t, impl.Request{}, false)
	for path, want := range map[string]bool{
		"/": true, "//": true, "/a b": true, "/ ": true, "/\t": true, "/;=": true, "/\x80": true, "/é": true, filled("/", "p", 59): true, filled("/", "p", 60): true, filled("", "/", 60): true,
		"": false, "x": false, "x/": false, " /": false, "\n/": false, "/\n": false, "/\x00": false, "/\x1f": false, "/\x7f": false, filled("/", "p", 61): false, filled("", "/", 61): false, filled("/", "\x01", 60): false, filled("/", "p", impl.MaxText+1): false, filled("/", "\x01", impl.MaxText+1): false,
	} {
		checkRequest(t, requestWith(func(r *impl.Request) { r.Path = path }), want)
		checkRequest(t, impl.Request{Host: "a", Path: path}, want)
		checkRequest(t, impl.Request{Host: "A", Path: path}, false)
	}
	for host, want := range map[string]bool{
		"a": true, "example": true, "1.2.3.4": true, "a.b.c.d.e.f": true, strings.Repeat("a", 40): true,
		"": false, "A": false, "a.": false, ".a": false, "a b": false, "a.b.c.d.e.f.g": false, strings.Repeat("a", 41): false, "*.a": false, filled("", "a", impl.MaxText+1): false,
	} {
		checkRequest(t, requestWith(func(r *impl.Request) { r.Host = host }), want)
		checkRequest(t, impl.Request{Host: host, Path: "/"}, want)
	}
}

func TestP11BytesOfARequest(t *testing.T) {
	for a := range 256 {
		c := string([]byte{byte(a)})
		for _, path := range []string{c, "/" + c, "/x" + c + "y"} {
			r := requestWith(func(r *impl.Request) { r.Path = path })
			if got := impl.RequestOK(r); got != requestByFields(r) {
				t.Errorf("RequestOK(%s) = %v", shownRequest(r), got)
			}
		}
		r := requestWith(func(r *impl.Request) { r.Host = "x" + c + "y" })
		if got := impl.RequestOK(r); got != hostByForm(r.Host) {
			t.Errorf("RequestOK(%s) = %v", shownRequest(r), got)
		}
	}
}

func TestP1SameJars(t *testing.T) {
	for _, change := range []jarChange{
		func(j *impl.Jar) { j.Rules = nil },
		func(j *impl.Jar) { j.Rules = words("*.ck example !www.ck") },
		func(j *impl.Jar) { j.Rules = words("example *.ck !www.ck x") },
		func(j *impl.Jar) { j.Limit = 4 },
		func(j *impl.Jar) { j.PerParty = 3 },
		func(j *impl.Jar) { j.Now = 101 },
		func(j *impl.Jar) { j.Next = 11 },
		func(j *impl.Jar) { j.Cookies = nil },
		func(j *impl.Jar) { j.Cookies = j.Cookies[:2] },
		func(j *impl.Jar) { j.Cookies[0].Id = 1 },
		func(j *impl.Jar) { j.Cookies[0].Name = "Sid" },
		func(j *impl.Jar) { j.Cookies[0].Value = "w" },
		func(j *impl.Jar) { j.Cookies[1].Domain = "c.a.example" },
		func(j *impl.Jar) { j.Cookies[1].Path = "/q" },
		func(j *impl.Jar) { j.Cookies[1].HostOnly = false },
		func(j *impl.Jar) { j.Cookies[1].Secure = true },
		func(j *impl.Jar) { j.Cookies[1].HttpOnly = true },
		func(j *impl.Jar) { j.Cookies[2].Site = 1 },
		func(j *impl.Jar) { j.Cookies[2].Expires = 5 },
		func(j *impl.Jar) { j.Cookies[2].Made = 11 },
		func(j *impl.Jar) { j.Cookies[2].Used = 99 },
	} {
		j := someJar()
		change(&j)
		// A change that makes a jar invalid would hide that it makes it another one.
		if !impl.JarOK(j) || impl.SameJar(j, someJar()) || impl.SameJar(someJar(), j) || !impl.SameJar(j, copiedJar(j)) {
			t.Errorf("SameJar takes %s for %s, or not for itself", shownJar(j), shownJar(someJar()))
		}
	}
}

func TestP1SameJarsOfNilAndEmptySlices(t *testing.T) {
	a := impl.Jar{Limit: 1, PerParty: 1, Next: 1}
	b := impl.Jar{Rules: []string{}, Limit: 1, PerParty: 1, Next: 1, Cookies: make([]impl.Cookie, 0, 3)}
	if !impl.SameJar(a, b) || !impl.SameJar(b, a) {
		t.Error("SameJar distinguishes nil and empty slices")
	}
}

func TestP1JarsThatAreNotValidAreNotTheSame(t *testing.T) {
	for _, bad := range []impl.Jar{{}, {Limit: 1, PerParty: 1}, {Limit: 13, PerParty: 1, Next: 1}, {Rules: []string{""}, Limit: 1, PerParty: 1, Next: 1}} {
		for _, other := range []impl.Jar{bad, someJar(), emptyJar()} {
			if impl.SameJar(bad, other) || impl.SameJar(other, bad) {
				t.Errorf("SameJar takes %s and %s for the same", shownJar(bad), shownJar(other))
			}
		}
	}
}
