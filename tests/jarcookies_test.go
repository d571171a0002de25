package tests

import (
	"strings"
	"testing"

	"loop.example/g00803/impl"
)

// checkRefused expects a code of CookieFrom, and no cookie beside it.
func checkRefused(t *testing.T, j impl.Jar, r impl.Request, p impl.Parsed, want int) {
	t.Helper()
	if got, code := checkCookieFrom(t, j, r, p); got != (impl.Cookie{}) || code != want {
		t.Errorf("CookieFrom(%s, %s, %s) = %s, %d, want %d", shownJar(j), shownRequest(r), shownParsed(p), shownCookie(got), code, want)
	}
}

func checkMade(t *testing.T, j impl.Jar, r impl.Request, p impl.Parsed, want impl.Cookie) {
	t.Helper()
	if got, code := checkCookieFrom(t, j, r, p); got != want || code != 0 {
		t.Errorf("CookieFrom(%s, %s, %s) = %s, %d, want %s", shownJar(j), shownRequest(r), shownParsed(p), shownCookie(got), code, shownCookie(want))
	}
}

// madeWith is the cookie of the header `a=b` for someRequest and a jar at 100 with Next 20, with a change.
func madeWith(change cookieChange) impl.Cookie {
	c := impl.Cookie{Id: 20, Name: "a", Value: "b", Domain: "b.a.example", Path: "/x", HostOnly: true, Site: impl.SiteDefault, Expires: impl.Forever, Made: 100, Used: 100}
	change(&c)
	return c
}

func TestP11FieldsOfACookie(t *testing.T) {
	checkMade(t, emptyJar(), someRequest(), plain("a", "b"), madeWith(func(c *impl.Cookie) {}))
	full := impl.Parsed{Name: "n m", Value: "v=w", Domain: "a.example", Path: "/q", HasExpires: true, HasAge: true, HasPath: true, Expires: 5, Age: 7, Site: impl.SiteStrict, Secure: true, HttpOnly: true}
	checkMade(t, emptyJar(), someRequest(), full, impl.Cookie{Id: 20, Name: "n m", Value: "v=w", Domain: "a.example", Path: "/q", Secure: true, HttpOnly: true, Site: impl.SiteStrict, Expires: 107, Made: 100, Used: 100})
	for _, pair := range [][2]string{{"", "v"}, {"n", ""}, {"", "v=w"}, {"n", "="}, {filled("", "n", 100), ""}} {
		checkMade(t, emptyJar(), someRequest(), plain(pair[0], pair[1]), madeWith(func(c *impl.Cookie) { c.Name, c.Value = pair[0], pair[1] }))
	}
	for _, next := range []int{1, 2, 999999999999, 1000000000000} {
		j := emptyJar()
		j.Next, j.Now = next, next
		checkMade(t, j, someRequest(), plain("a", "b"), madeWith(func(c *impl.Cookie) { c.Id, c.Made, c.Used = next, next, next }))
	}
}

func TestP12DomainsOfCookies(t *testing.T) {
	for _, v := range []struct {
		host, header, domain string
		hostOnly             bool
	}{
		{"b.a.example", "", "b.a.example", true}, {"b.a.example", "b.a.example", "b.a.example", false}, {"b.a.example", "a.example", "a.example", false}, {"f.e.d.c.b.a", "b.a", "b.a", false}, {"f.e.d.c.b.a", "f.e.d.c.b.a", "f.e.d.c.b.a", false},
		{"example", "", "example", true}, {"example", "example", "example", true}, {"zap", "", "zap", true}, {"zap", "zap", "zap", true}, {"q.ck", "", "q.ck", true}, {"q.ck", "q.ck", "q.ck", true}, {"ck", "ck", "ck", true},
		{"www.ck", "", "www.ck", true}, {"www.ck", "www.ck", "www.ck", false}, {"z.www.ck", "www.ck", "www.ck", false}, {"z.q.ck", "z.q.ck", "z.q.ck", false}, {"y.z.q.ck", "z.q.ck", "z.q.ck", false},
		{"1.2.3.4", "", "1.2.3.4", true}, {"1.2.3.4", "1.2.3.4", "1.2.3.4", true}, {"x.1.2.3.4", "1.2.3.4", "1.2.3.4", true}, {"x.1.2.3.4", "3.4", "3.4", false}, {"256.2.3.4", "3.4", "3.4", false}, {"4", "4", "4", true},
	} {
		r, p := requestWith(func(r *impl.Request) { r.Host = v.host }), with(func(p *impl.Parsed) { p.Domain = v.header })
		checkMade(t, emptyJar(), r, p, madeWith(func(c *impl.Cookie) { c.Domain, c.HostOnly = v.domain, v.hostOnly }))
	}
}

func TestP12DomainsThatAreRefused(t *testing.T) {
	for _, v := range []struct {
		host, header string
		code         int
	}{
		{"b.a.example", "x y", impl.ErrDomain}, {"b.a.example", ".a.example", impl.ErrDomain}, {"b.a.example", "a.example.", impl.ErrDomain}, {"b.a.example", ".", impl.ErrDomain}, {"b.a.example", "*.example", impl.ErrDomain}, {"b.a.example", "b.a..example", impl.ErrDomain}, {"b.a.example", filled("", "a", 41), impl.ErrDomain}, {"b.a.example", "a.b.c.d.e.a.example", impl.ErrDomain}, {"b.a.example", "é", impl.ErrDomain},
		{"b.a.example", "c.a.example", impl.ErrDomain}, {"b.a.example", "x.b.a.example", impl.ErrDomain}, {"b.a.example", "c.example", impl.ErrDomain}, {"b.xa.example", "a.example", impl.ErrDomain}, {"a.example.zap", "a.example", impl.ErrDomain}, {"b.a.example", "1.2.3.4", impl.ErrDomain},
		{"b.a.example", "example", impl.ErrSuffix}, {"a.example", "example", impl.ErrSuffix}, {"b.a.example", "ck", impl.ErrSuffix}, {"b.a.example", "q.ck", impl.ErrSuffix}, {"b.a.example", "zap", impl.ErrSuffix}, {"z.q.ck", "q.ck", impl.ErrSuffix}, {"z.q.ck", "ck", impl.ErrSuffix}, {"www.ck", "ck", impl.ErrSuffix}, {"q.ck", "p.ck", impl.ErrSuffix}, {"b.zap", "zap", impl.ErrSuffix},
		{"1.2.3.4", "2.3.4", impl.ErrDomain}, {"1.2.3.4", "3.4", impl.ErrDomain}, {"1.2.3.4", "4", impl.ErrSuffix}, {"1.2.3.4", "1.2.3.5", impl.ErrDomain}, {"1.2.3.4", "x.1.2.3.4", impl.ErrDomain}, {"www.ck", "z.www.ck", impl.ErrDomain},
	} {
		checkRefused(t, emptyJar(), requestWith(func(r *impl.Request) { r.Host = v.host }), with(func(p *impl.Parsed) { p.Domain = v.header }), v.code)
	}
}

// Whatever the rules are, no host sets a cookie for another one by way of a public suffix.
func TestP12NoCookieForAPublicSuffix(t *testing.T) {
	hosts := onlyHosts(words("a b.a c.b.a d.c.b.a a.a b.b b xa b.xa x.a 4 3.4 2.3.4 1.2.3.4 x.1.2.3.4"))
	made, refused := 0, 0
	for _, rules := range append(ruleLists(60), words("a b.a c.b.a"), words("*.a !b.a"), words("1.2.3.4 *.3.4 !2.3.4")) {
		j := emptyJar()
		j.Rules = rules
		for _, host := range hosts {
			for _, domain := range hosts {
				r, p := requestWith(func(r *impl.Request) { r.Host = host }), with(func(p *impl.Parsed) { p.Domain = domain })
				c, code := checkCookieFrom(t, j, r, p)
				if code != 0 {
					refused++
					continue
				}
				made++
				if suffixByTails(rules, c.Domain) && (!c.HostOnly || c.Domain != host) {
					t.Errorf("with the rules %s the host %s sets a cookie for %s", shownRules(rules), host, c.Domain)
				}
			}
		}
	}
	if made < 500 || refused < 500 {
		t.Errorf("%d cookies are made and %d are refused", made, refused)
	}
}

func TestP11PathsOfCookies(t *testing.T) {
	long := filled("/", "p", 60)
	for _, v := range []struct {
		request string
		has     bool
		header  string
		want    string
	}{
		{"/", false, "", "/"}, {"/x", false, "", "/"}, {"/x/", false, "", "/x"}, {"/x/y", false, "", "/x"}, {"/x/y/", false, "", "/x/y"}, {"//", false, "", "/"}, {"/ /x", false, "", "/ "}, {"/;/x", false, "", "/;"}, {long, false, "", "/"}, {filled("/", "p", 59) + "/", false, "", filled("/", "p", 59)}, {filled("", "/", 60), false, "", filled("", "/", 59)},
		{"/x/y", true, "/", "/"}, {"/x/y", true, "/q", "/q"}, {"/x/y", true, "/x/y/z", "/x/y/z"}, {"/", true, "/q/", "/q/"}, {"/x/y", true, long, long},
	} {
		r := requestWith(func(r *impl.Request) { r.Path = v.request })
		p := with(func(p *impl.Parsed) { p.HasPath, p.Path = v.has, v.header })
		checkMade(t, emptyJar(), r, p, madeWith(func(c *impl.Cookie) { c.Path = v.want }))
	}
}

func TestP11TimesOfCookies(t *testing.T) {
	const ageCap, most = 34560000, 1000000000000
	for _, v := range []struct {
		now  int
		p    impl.Parsed
		want int
	}{
		{100, impl.Parsed{}, impl.Forever}, {0, impl.Parsed{}, impl.Forever}, {most, impl.Parsed{}, impl.Forever},
		{100, impl.Parsed{HasAge: true, Age: 1}, 101}, {100, impl.Parsed{HasAge: true}, 0}, {100, impl.Parsed{HasAge: true, Age: -1}, 0}, {100, impl.Parsed{HasAge: true, Age: -most}, 0},
		{100, impl.Parsed{HasAge: true, Age: ageCap - 1}, ageCap + 99}, {100, impl.Parsed{HasAge: true, Age: ageCap}, ageCap + 100}, {100, impl.Parsed{HasAge: true, Age: ageCap + 1}, ageCap + 100}, {100, impl.Parsed{HasAge: true, Age: most}, ageCap + 100},
		{0, impl.Parsed{HasAge: true, Age: 1}, 1}, {0, impl.Parsed{HasAge: true}, 0}, {0, impl.Parsed{HasAge: true, Age: -1}, 0}, {0, impl.Parsed{HasAge: true, Age: most}, ageCap}, {most, impl.Parsed{HasAge: true, Age: most}, most + ageCap}, {most, impl.Parsed{HasAge: true, Age: -most}, 0}, {most, impl.Parsed{HasAge: true, Age: 1}, most + 1},
		{100, impl.Parsed{HasExpires: true, Expires: 101}, 101}, {100, impl.Parsed{HasExpires: true, Expires: 100}, 0}, {100, impl.Parsed{HasExpires: true, Expires: 99}, 0}, {100, impl.Parsed{HasExpires: true}, 0}, {100, impl.Parsed{HasExpires: true, Expires: -1}, 0},
		{100, impl.Parsed{HasExpires: true, Expires: ageCap + 99}, ageCap + 99}, {100, impl.Parsed{HasExpires: true, Expires: ageCap + 100}, ageCap + 100}, {100, impl.Parsed{HasExpires: true, Expires: ageCap + 101}, ageCap + 100}, {100, impl.Parsed{HasExpires: true, Expires: lastSecond}, ageCap + 100}, {100, impl.Parsed{HasExpires: true, Expires: firstSecond}, 0},
		{0, impl.Parsed{HasExpires: true, Expires: 1}, 1}, {0, impl.Parsed{HasExpires: true}, 0}, {0, impl.Parsed{HasExpires: true, Expires: ageCap + 1}, ageCap}, {most, impl.Parsed{HasExpires: true, Expires: lastSecond}, 0}, {lastSecond - 1, impl.Parsed{HasExpires: true, Expires: lastSecond}, lastSecond},
		{100, impl.Parsed{HasAge: true, Age: 2, HasExpires: true, Expires: 9}, 102}, {100, impl.Parsed{HasAge: true, Age: -2, HasExpires: true, Expires: 1000}, 0}, {100, impl.Parsed{HasAge: true, HasExpires: true, Expires: 1000}, 0}, {100, impl.Parsed{HasAge: true, Age: 900, HasExpires: true, Expires: 500}, 1000}, {100, impl.Parsed{HasAge: true, Age: most, HasExpires: true, Expires: 101}, ageCap + 100},
	} {
		j := emptyJar()
		j.Now = v.now
		v.p.Name, v.p.Value, v.p.Site = "a", "b", impl.SiteDefault
		checkMade(t, j, someRequest(), v.p, madeWith(func(c *impl.Cookie) { c.Expires, c.Made, c.Used = v.want, v.now, v.now }))
	}
}

// checkAllRequests takes each Site with all flags of a header and of a request.
func checkAllRequests(t *testing.T, j impl.Jar, p impl.Parsed, host string) {
	t.Helper()
	for bits := range 256 {
		flag := func(bit int) bool { return bits>>bit&1 == 1 }
		r := impl.Request{Host: host, Path: "/x/y", Safe: flag(0), Http: flag(1), Same: flag(2), Top: flag(3)}
		p.Secure, p.HttpOnly, p.Site = flag(4), flag(5), 1+bits>>6
		checkCookieFrom(t, j, r, p)
	}
}

func TestP11RequestsOfCookies(t *testing.T) {
	for _, name := range words("a __Secure-a __secure- __SECURE-A __Host-a __HOST- __host-- __Host __Secure _secure-a x__host-a __\u017fecure-a __ho\u017ft-a") {
		for _, domain := range []string{"", "a.example", "b.a.example", "example", "c.example"} {
			for _, path := range []string{"", "/", "/x", "//"} {
				p := impl.Parsed{Name: name, Value: "b", Domain: domain, HasPath: path != "", Path: path}
				checkAllRequests(t, emptyJar(), p, "b.a.example")
			}
		}
	}
}

type headerChange func(p *impl.Parsed)

func TestP11FlagsThatAreRefused(t *testing.T) {
	all := func(r *impl.Request) {}
	far := func(r *impl.Request) { r.Same, r.Top = false, false }
	for i, v := range []struct {
		request requestChange
		header  headerChange
		code    int
	}{
		{func(r *impl.Request) { r.Safe = false }, func(p *impl.Parsed) { p.Secure = true }, impl.ErrSecure}, {func(r *impl.Request) { r.Safe = false }, func(p *impl.Parsed) {}, 0}, {all, func(p *impl.Parsed) { p.Secure = true }, 0},
		{func(r *impl.Request) { r.Http = false }, func(p *impl.Parsed) { p.HttpOnly = true }, impl.ErrHttp}, {func(r *impl.Request) { r.Http = false }, func(p *impl.Parsed) {}, 0}, {all, func(p *impl.Parsed) { p.HttpOnly = true }, 0},
		{far, func(p *impl.Parsed) {}, impl.ErrSite}, {far, func(p *impl.Parsed) { p.Site = impl.SiteLax }, impl.ErrSite}, {far, func(p *impl.Parsed) { p.Site = impl.SiteStrict }, impl.ErrSite}, {far, func(p *impl.Parsed) { p.Site, p.Secure = impl.SiteStrict, true }, impl.ErrSite},
		{far, func(p *impl.Parsed) { p.Site, p.Secure = impl.SiteNone, true }, 0}, {far, func(p *impl.Parsed) { p.Site = impl.SiteNone }, impl.ErrSite}, {all, func(p *impl.Parsed) { p.Site = impl.SiteNone }, impl.ErrSite}, {all, func(p *impl.Parsed) { p.Site, p.Secure = impl.SiteNone, true }, 0},
		{func(r *impl.Request) { r.Same = false }, func(p *impl.Parsed) { p.Site = impl.SiteStrict }, 0}, {func(r *impl.Request) { r.Top = false }, func(p *impl.Parsed) { p.Site = impl.SiteStrict }, 0}, {func(r *impl.Request) { r.Same = false }, func(p *impl.Parsed) { p.Site = impl.SiteLax }, 0}, {func(r *impl.Request) { r.Top = false }, func(p *impl.Parsed) {}, 0},
	} {
		r, p := requestWith(v.request), with(v.header)
		c, code := checkCookieFrom(t, emptyJar(), r, p)
		want := impl.Cookie{}
		if v.code == 0 {
			want = madeWith(func(c *impl.Cookie) { c.Secure, c.HttpOnly, c.Site = p.Secure, p.HttpOnly, p.Site })
		}
		if c != want || code != v.code {
			t.Errorf("case %d: CookieFrom has %s, %d, want %s, %d", i, shownCookie(c), code, shownCookie(want), v.code)
		}
	}
}

func TestP11NamePrefixes(t *testing.T) {
	for i, v := range []struct {
		name   string
		header headerChange
		code   int
	}{
		{"__secure-a", func(p *impl.Parsed) {}, impl.ErrPrefix}, {"__Secure-a", func(p *impl.Parsed) {}, impl.ErrPrefix}, {"__SECURE-", func(p *impl.Parsed) {}, impl.ErrPrefix}, {"__sEcUrE-a", func(p *impl.Parsed) { p.Secure = true }, 0}, {"__secure-a", func(p *impl.Parsed) { p.Secure, p.Domain = true, "a.example" }, 0},
		{"__host-a", func(p *impl.Parsed) {}, impl.ErrPrefix}, {"__HOST-a", func(p *impl.Parsed) { p.HasPath, p.Path = true, "/" }, impl.ErrPrefix}, {"__Host-a", func(p *impl.Parsed) { p.Secure = true }, impl.ErrPrefix}, {"__host-", func(p *impl.Parsed) { p.Secure, p.HasPath, p.Path = true, true, "/x" }, impl.ErrPrefix}, {"__host-a", func(p *impl.Parsed) { p.Secure, p.HasPath, p.Path = true, true, "//" }, impl.ErrPrefix},
		{"__host-a", func(p *impl.Parsed) { p.Secure, p.HasPath, p.Path = true, true, "/" }, 0}, {"__HOST-A", func(p *impl.Parsed) { p.Secure, p.HasPath, p.Path = true, true, "/" }, 0}, {"__host-a", func(p *impl.Parsed) { p.Secure, p.HasPath, p.Path, p.Domain = true, true, "/", "a.example" }, impl.ErrPrefix}, {"__host-a", func(p *impl.Parsed) { p.Secure, p.HasPath, p.Path, p.Domain = true, true, "/", "b.a.example" }, impl.ErrPrefix},
		{"__secure", func(p *impl.Parsed) {}, 0}, {"__host", func(p *impl.Parsed) {}, 0}, {"a__secure-", func(p *impl.Parsed) {}, 0}, {"_secure-a", func(p *impl.Parsed) {}, 0}, {"-_host-a", func(p *impl.Parsed) {}, 0}, {"__\u017fecure-a", func(p *impl.Parsed) {}, 0},
	} {
		p := with(v.header)
		p.Name = v.name
		if _, code := checkCookieFrom(t, emptyJar(), someRequest(), p); code != v.code {
			t.Errorf("case %d: the code of CookieFrom for the name %q is %d, want %d", i, v.name, code, v.code)
		}
	}
	// A public suffix or an address makes a cookie HostOnly, although the header has a Domain.
	for _, host := range []string{"zap", "q.ck", "1.2.3.4"} {
		r := requestWith(func(r *impl.Request) { r.Host = host })
		p := impl.Parsed{Name: "__Host-a", Domain: host, Secure: true, HasPath: true, Path: "/", Site: impl.SiteDefault}
		checkMade(t, emptyJar(), r, p, madeWith(func(c *impl.Cookie) { c.Name, c.Value, c.Domain, c.Path, c.Secure = p.Name, "", host, "/", true }))
	}
	// The request's path alone is no Path of the header.
	checkRefused(t, emptyJar(), requestWith(func(r *impl.Request) { r.Path = "/" }), with(func(p *impl.Parsed) { p.Name, p.Secure = "__host-a", true }), impl.ErrPrefix)
}

// fault makes CookieFrom fail with its code, unless an earlier one is there too.
type fault struct {
	change func(j *impl.Jar, r *impl.Request, p *impl.Parsed)
	code   int
}

// old is a cookie that has all that the new one of `a=b` for someRequest has in common with its key.
func old(id int, change cookieChange) impl.Cookie {
	c := madeWith(change)
	c.Id, c.Made, c.Used = id, 10, 90
	return c
}

// The steps after the Domain. The fault of a cookie that covers the new one is for itself, as it needs a header without Secure.
func laterFaults() []fault {
	return []fault{
		{func(j *impl.Jar, r *impl.Request, p *impl.Parsed) { r.Safe, p.Secure = false, true }, impl.ErrSecure},
		{func(j *impl.Jar, r *impl.Request, p *impl.Parsed) { r.Http, p.HttpOnly = false, true }, impl.ErrHttp},
		{func(j *impl.Jar, r *impl.Request, p *impl.Parsed) { r.Same, r.Top = false, false }, impl.ErrSite},
		{func(j *impl.Jar, r *impl.Request, p *impl.Parsed) { p.Name = "__Host-a" }, impl.ErrPrefix},
		{func(j *impl.Jar, r *impl.Request, p *impl.Parsed) {
			r.Safe, p.Secure = false, false
			j.Cookies = append(j.Cookies, old(3, func(c *impl.Cookie) {
				c.Name, c.Domain, c.Path, c.HostOnly, c.Secure = p.Name, "a.example", "/", false, true
			}))
		}, impl.ErrSecure},
		{func(j *impl.Jar, r *impl.Request, p *impl.Parsed) {
			r.Http = false
			j.Cookies = append(j.Cookies, old(4, func(c *impl.Cookie) { c.Name, c.HttpOnly = p.Name, true }))
		}, impl.ErrHttp},
	}
}

func TestP11TheFirstErrorCounts(t *testing.T) {
	domains := map[string]int{"": 0, "x y": impl.ErrDomain, "example": impl.ErrSuffix, "c.example": impl.ErrDomain}
	faults := laterFaults()
	for domain, domainCode := range domains {
		for bits := range 1 << len(faults) {
			if bits&17 == 17 {
				continue
			}
			j, r, p := emptyJar(), someRequest(), with(func(p *impl.Parsed) { p.Domain = domain })
			want := domainCode
			for i, f := range faults {
				if bits>>i&1 == 1 {
					f.change(&j, &r, &p)
				}
				if bits>>i&1 == 1 && want == 0 {
					want = f.code
				}
			}
			if _, code := checkCookieFrom(t, j, r, p); code != want {
				t.Errorf("the code of CookieFrom with the Domain %q and the faults %06b is %d, want %d", domain, bits, code, want)
			}
		}
	}
}

func TestP11CookiesThatCoverTheNewOne(t *testing.T) {
	unsafe := requestWith(func(r *impl.Request) { r.Safe = false })
	cover := func(change cookieChange) impl.Cookie {
		return old(3, func(c *impl.Cookie) {
			c.Domain, c.Path, c.HostOnly, c.Secure = "a.example", "/", false, true
			change(c)
		})
	}
	for i, v := range []struct {
		change cookieChange
		code   int
	}{
		{func(c *impl.Cookie) {}, impl.ErrSecure}, {func(c *impl.Cookie) { c.Expires = 1 }, impl.ErrSecure}, {func(c *impl.Cookie) { c.Expires = 100 }, impl.ErrSecure}, {func(c *impl.Cookie) { c.Domain = "b.a.example" }, impl.ErrSecure}, {func(c *impl.Cookie) { c.Domain = "c.b.a.example" }, impl.ErrSecure}, {func(c *impl.Cookie) { c.Path = "/x" }, impl.ErrSecure}, {func(c *impl.Cookie) { c.Domain, c.HostOnly = "a.example", true }, impl.ErrSecure},
		{func(c *impl.Cookie) { c.Secure = false }, 0}, {func(c *impl.Cookie) { c.Name = "A" }, 0}, {func(c *impl.Cookie) { c.Domain = "c.a.example" }, 0}, {func(c *impl.Cookie) { c.Path = "/x/y" }, 0}, {func(c *impl.Cookie) { c.Path = "/x/" }, 0}, {func(c *impl.Cookie) { c.Path = "/y" }, 0},
	} {
		for _, j := range []impl.Jar{jarOf(cover(v.change)), jarOf(old(1, func(c *impl.Cookie) { c.Name = "other" }), cover(v.change)), jarOf(cover(v.change), old(9, func(c *impl.Cookie) { c.Name = "other" }))} {
			for _, age := range []int{5, 0, -5} {
				p := with(func(p *impl.Parsed) { p.HasAge, p.Age = true, age })
				if _, code := checkCookieFrom(t, j, unsafe, p); code != v.code {
					t.Errorf("case %d: the code of CookieFrom with the Age %d is %d, want %d", i, age, code, v.code)
				}
				p.Secure = true
				if _, code := checkCookieFrom(t, j, someRequest(), p); code != 0 {
					t.Errorf("case %d: a Secure cookie has the code %d", i, code)
				}
				p.Secure = false
				if _, code := checkCookieFrom(t, j, someRequest(), p); code != 0 {
					t.Errorf("case %d: a cookie of a safe request has the code %d", i, code)
				}
			}
		}
	}
}

func TestP11CookiesOfTheSameKey(t *testing.T) {
	script := requestWith(func(r *impl.Request) { r.Http = false })
	for _, age := range []int{5, 0, -5} {
		p := with(func(p *impl.Parsed) { p.HasAge, p.Age = true, age })
		want := madeWith(func(c *impl.Cookie) { c.Expires = expiresBySteps(100, p) })
		http := jarOf(old(3, func(c *impl.Cookie) { c.HttpOnly = true }))
		checkRefused(t, http, script, p, impl.ErrHttp)
		http.Cookies[0].Expires = 1
		checkRefused(t, http, script, p, impl.ErrHttp)
		want.Made = 10
		checkMade(t, http, someRequest(), p, want)
		checkMade(t, jarOf(old(3, func(c *impl.Cookie) {})), script, p, want)
		for _, made := range []int{0, 1, 99, 100} {
			j := jarOf(old(3, func(c *impl.Cookie) {}))
			j.Cookies[0].Made, j.Cookies[0].Used, want.Made = made, 100, made
			checkMade(t, j, someRequest(), p, want)
		}
		// Another key: the Made of such a cookie does not count, nor that it is HttpOnly.
		want.Made = 100
		for _, change := range []cookieChange{func(c *impl.Cookie) { c.Name = "A" }, func(c *impl.Cookie) { c.Path = "/x/" }, func(c *impl.Cookie) { c.HostOnly = false }, func(c *impl.Cookie) { c.Domain = "c.b.a.example" }} {
			other := old(3, change)
			other.HttpOnly = true
			checkMade(t, jarOf(other), script, p, want)
		}
	}
}

// The cookies of the jar are met in turn: an ErrHttp of the first one precedes an ErrSecure of the second one.
func TestP11TheCookiesOfAJarAreMetInTurn(t *testing.T) {
	r := requestWith(func(r *impl.Request) { r.Safe, r.Http = false, false })
	cover := func(id int) impl.Cookie {
		return old(id, func(c *impl.Cookie) { c.Domain, c.HostOnly, c.Secure = "a.example", false, true })
	}
	same := func(id int) impl.Cookie { return old(id, func(c *impl.Cookie) { c.HttpOnly = true }) }
	both := func(id int) impl.Cookie {
		return old(id, func(c *impl.Cookie) { c.HttpOnly, c.Secure = true, true })
	}
	checkRefused(t, jarOf(same(3), cover(4)), r, plain("a", "b"), impl.ErrHttp)
	checkRefused(t, jarOf(cover(3), same(4)), r, plain("a", "b"), impl.ErrSecure)
	checkRefused(t, jarOf(both(3)), r, plain("a", "b"), impl.ErrSecure)
	r.Http = true
	checkRefused(t, jarOf(same(3), cover(4)), r, plain("a", "b"), impl.ErrSecure)
}

func TestP11HeadersThatAreNotValid(t *testing.T) {
	for _, change := range []headerChange{
		func(p *impl.Parsed) { *p = impl.Parsed{} },
		func(p *impl.Parsed) { p.Name, p.Value = "", "" },
		func(p *impl.Parsed) { p.Name = "a=" },
		func(p *impl.Parsed) { p.Value = "b;" },
		func(p *impl.Parsed) { p.Value = strings.Repeat("b", 100) },
		func(p *impl.Parsed) { p.Value = filled("", "b", impl.MaxText+1) },
		func(p *impl.Parsed) { p.Domain = "A.example" },
		func(p *impl.Parsed) { p.Domain = filled("", "d", 61) },
		func(p *impl.Parsed) { p.Path = "/" },
		func(p *impl.Parsed) { p.HasPath = true },
		func(p *impl.Parsed) { p.HasPath, p.Path = true, "x" },
		func(p *impl.Parsed) { p.HasPath, p.Path = true, filled("/", "p", 61) },
		func(p *impl.Parsed) { p.Age = 1 },
		func(p *impl.Parsed) { p.HasAge, p.Age = true, 1000000000001 },
		func(p *impl.Parsed) { p.HasAge, p.Age = true, -1<<63 },
		func(p *impl.Parsed) { p.Expires = 1 },
		func(p *impl.Parsed) { p.HasExpires, p.Expires = true, lastSecond+1 },
		func(p *impl.Parsed) { p.Site = 0 },
		func(p *impl.Parsed) { p.Site = 5 },
	} {
		p := with(change)
		checkRefused(t, emptyJar(), someRequest(), p, impl.ErrBad)
		checkRefused(t, impl.Jar{}, impl.Request{}, p, impl.ErrBad)
		// Nothing of the steps is told of a header that is not valid.
		p.Domain += "x y"
		checkRefused(t, emptyJar(), someRequest(), p, impl.ErrBad)
	}
}
