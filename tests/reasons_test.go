package tests

import (
	"math"
	"math/rand"
	"testing"

	"loop.example/g00803/impl"
)

// forAll is a cookie that is sent with someRequest at any time before 50.
func forAll() impl.Cookie {
	return impl.Cookie{Id: 5, Name: "sid", Value: "v", Domain: "b.a.example", Path: "/x/y", Site: impl.SiteDefault, Expires: 50, Made: 10, Used: 20}
}

func TestP13TimesAtWhichACookieIsSent(t *testing.T) {
	for _, expires := range []int{1, 2, 50, 999999999999, 1000000000000, 1000000000001, 1999999999999, 2000000000000} {
		c := forAll()
		c.Expires = expires
		checkReason(t, c, someRequest(), expires-1, 0)
		checkReason(t, c, someRequest(), expires, impl.ErrDate)
		checkReason(t, c, someRequest(), expires+1, impl.ErrDate)
		for _, now := range []int{0, -1, -50, -1000000000001, math.MinInt + 1, math.MinInt} {
			checkReason(t, c, someRequest(), now, 0)
		}
		for _, now := range []int{2000000000000, 2000000000001, 1 << 62, math.MaxInt} {
			checkReason(t, c, someRequest(), now, impl.ErrDate)
		}
	}
	forever := forAll()
	forever.Expires = impl.Forever
	for _, now := range []int{1000000000000, 1000000000001, 1999999999999} {
		checkReason(t, forever, someRequest(), now, 0)
		checkReason(t, forAll(), someRequest(), now, impl.ErrDate)
	}
}

// The Made and the Used of a cookie say nothing about when it is sent.
func TestP13ACookieMayBeSentBeforeItWasMade(t *testing.T) {
	for _, now := range []int{0, 9, 10, 11, 19, 20, 21, 49} {
		checkReason(t, forAll(), someRequest(), now, 0)
	}
}

type hostCase struct{ domain, host string }

func checkHosts(t *testing.T, hostOnly bool, want int, list ...hostCase) {
	t.Helper()
	for _, v := range list {
		c, r := forAll(), requestWith(func(r *impl.Request) { r.Host = v.host })
		c.Domain, c.HostOnly = v.domain, hostOnly
		checkReason(t, c, r, 0, want)
	}
}

func TestP13HostsToWhichACookieIsSent(t *testing.T) {
	same := []hostCase{{"a.example", "a.example"}, {"example", "example"}, {"zap", "zap"}, {"1.2.3.4", "1.2.3.4"}, {"x.1.2.3.4", "x.1.2.3.4"}, {"f.e.d.c.b.a", "f.e.d.c.b.a"}}
	below := []hostCase{{"a.example", "b.a.example"}, {"a.example", "c.b.a.example"}, {"example", "a.example"}, {"a", "f.e.d.c.b.a"}, {"3.4", "256.2.3.4"}, {"3.4", "x.1.2.3.4"}, {"1.2.3.4", "x.1.2.3.4"}, {"4", "2.3.4"}}
	foreign := []hostCase{
		{"b.a.example", "a.example"}, {"b.a.example", "example"}, {"a.example", "example"}, {"x.1.2.3.4", "1.2.3.4"},
		{"a.example", "b.example"}, {"a.example", "zap"}, {"a.example", "xa.example"}, {"a.example", "a.example.zap"}, {"b.a.example", "c.a.example"}, {"a.a", "a"}, {"1.2.3.4", "1.2.3.5"}, {"1.2.3.4", "11.2.3.4"}, {"a.example", "1.2.3.4"},
		{"2.3.4", "1.2.3.4"}, {"3.4", "1.2.3.4"}, {"4", "1.2.3.4"}, {"4", "0.0.0.4"},
	}
	checkHosts(t, false, 0, same...)
	checkHosts(t, true, 0, same...)
	checkHosts(t, false, 0, below...)
	checkHosts(t, true, impl.ErrDomain, below...)
	checkHosts(t, false, impl.ErrDomain, foreign...)
	checkHosts(t, true, impl.ErrDomain, foreign...)
}

func TestP13PathsToWhichACookieIsSent(t *testing.T) {
	for _, v := range []struct {
		path, request string
		want          int
	}{
		{"/", "/", 0}, {"/x", "/x", 0}, {"/x/", "/x/", 0}, {"//", "//", 0}, {filled("/", "p", 60), filled("/", "p", 60), 0}, {"/x ", "/x ", 0},
		{"/", "/x", 0}, {"/", "//", 0}, {"/x", "/x/", 0}, {"/x", "/x/y", 0}, {"/x/", "/x/y", 0}, {"/x", "/x//", 0}, {"/x/y", "/x/y/z", 0}, {"/", filled("/", "p", 60), 0}, {"/x;", "/x;/", 0},
		{"/x", "/xy", impl.ErrForm}, {"/x", "/xy/", impl.ErrForm}, {"/x/y", "/x/yz", impl.ErrForm}, {"/x", "/x;/", impl.ErrForm}, {"/x", "/x.", impl.ErrForm}, {filled("/", "p", 59), filled("/", "p", 60), impl.ErrForm},
		{"/x/", "/x", impl.ErrForm}, {"/x/", "/xy", impl.ErrForm}, {"/x/y", "/x", impl.ErrForm}, {"/x/y", "/x/", impl.ErrForm}, {"/x", "/", impl.ErrForm}, {"//", "/", impl.ErrForm}, {"/x//", "/x/", impl.ErrForm},
		{"/x", "/y", impl.ErrForm}, {"/X", "/x", impl.ErrForm}, {"/x", "/X/y", impl.ErrForm}, {"/y", "/x/y", impl.ErrForm}, {"/x", "//x", impl.ErrForm}, {"/x ", "/x", impl.ErrForm},
	} {
		c, r := forAll(), requestWith(func(r *impl.Request) { r.Path = v.request })
		c.Path = v.path
		checkReason(t, c, r, 0, v.want)
	}
}

var bools = []bool{false, true}

func TestP13ChannelsOnWhichACookieIsSent(t *testing.T) {
	for _, secure := range bools {
		for _, httpOnly := range bools {
			for _, safe := range bools {
				for _, http := range bools {
					c, r := forAll(), requestWith(func(r *impl.Request) { r.Safe, r.Http = safe, http })
					c.Secure, c.HttpOnly = secure, httpOnly
					want := 0
					if httpOnly && !http {
						want = impl.ErrHttp
					}
					if secure && !safe {
						want = impl.ErrSecure
					}
					checkReason(t, c, r, 0, want)
				}
			}
		}
	}
}

func TestP13SitesFromWhichACookieIsSent(t *testing.T) {
	for _, v := range []struct {
		site      int
		same, top bool
		want      int
	}{
		{impl.SiteNone, true, true, 0}, {impl.SiteNone, true, false, 0}, {impl.SiteNone, false, true, 0}, {impl.SiteNone, false, false, 0},
		{impl.SiteLax, true, true, 0}, {impl.SiteLax, true, false, 0}, {impl.SiteLax, false, true, 0}, {impl.SiteLax, false, false, impl.ErrSite},
		{impl.SiteStrict, true, true, 0}, {impl.SiteStrict, true, false, 0}, {impl.SiteStrict, false, true, impl.ErrSite}, {impl.SiteStrict, false, false, impl.ErrSite},
		{impl.SiteDefault, true, true, 0}, {impl.SiteDefault, true, false, 0}, {impl.SiteDefault, false, true, 0}, {impl.SiteDefault, false, false, impl.ErrSite},
	} {
		// Only a Secure cookie of SiteNone can be set, but any one is sent.
		for _, secure := range bools {
			c, r := forAll(), requestWith(func(r *impl.Request) { r.Same, r.Top = v.same, v.top })
			c.Site, c.Secure = v.site, secure
			checkReason(t, c, r, 0, v.want)
		}
	}
}

// tellCase is a cookie, a request and a time.
type tellCase struct {
	c   impl.Cookie
	r   impl.Request
	now int
}

// aspect changes what one reason is about, so that the reason holds or not.
type aspect struct {
	holds  bool
	change func(v *tellCase)
}

func times() []aspect {
	return []aspect{
		{false, func(v *tellCase) { v.now = v.c.Expires - 1 }},
		{true, func(v *tellCase) { v.now = v.c.Expires }},
		{true, func(v *tellCase) { v.now = v.c.Expires + 1 }},
		{false, func(v *tellCase) { v.now = -1 }},
		{true, func(v *tellCase) { v.now = impl.MaxDecimal + 1 }},
		{false, func(v *tellCase) { v.now, v.c.Expires = impl.MaxDecimal+1, impl.Forever }},
	}
}

func places(holds, hostOnly bool, list ...hostCase) []aspect {
	var aspects []aspect
	for _, place := range list {
		aspects = append(aspects, aspect{holds, func(v *tellCase) {
			v.c.Domain, v.c.HostOnly, v.r.Host = place.domain, hostOnly, place.host
		}})
	}
	return aspects
}

func allPlaces() []aspect {
	list := places(false, true, hostCase{"a.example", "a.example"}, hostCase{"1.2.3.4", "1.2.3.4"})
	list = append(list, places(false, false, hostCase{"a.example", "a.example"}, hostCase{"a.example", "b.a.example"})...)
	list = append(list, places(true, true, hostCase{"a.example", "b.a.example"}, hostCase{"b.a.example", "a.example"}, hostCase{"a.example", "zap"})...)
	return append(list, places(true, false, hostCase{"b.a.example", "a.example"}, hostCase{"a.example", "zap"}, hostCase{"3.4", "1.2.3.4"})...)
}

func paths(holds bool, list ...[2]string) []aspect {
	var aspects []aspect
	for _, path := range list {
		aspects = append(aspects, aspect{holds, func(v *tellCase) { v.c.Path, v.r.Path = path[0], path[1] }})
	}
	return aspects
}

func channels(set func(v *tellCase, needed, given bool)) []aspect {
	var aspects []aspect
	for _, needed := range bools {
		for _, given := range bools {
			aspects = append(aspects, aspect{needed && !given, func(v *tellCase) { set(v, needed, given) }})
		}
	}
	return aspects
}

func sites() []aspect {
	site := func(holds bool, site int, same, top bool) aspect {
		return aspect{holds, func(v *tellCase) { v.c.Site, v.r.Same, v.r.Top = site, same, top }}
	}
	return []aspect{
		site(false, impl.SiteNone, false, false), site(false, impl.SiteLax, false, true), site(false, impl.SiteStrict, true, false), site(false, impl.SiteDefault, false, true),
		site(true, impl.SiteLax, false, false), site(true, impl.SiteStrict, false, true), site(true, impl.SiteStrict, false, false), site(true, impl.SiteDefault, false, false),
	}
}

// eachCase calls the function with each choice of one aspect of each list, and with the code of the first one that holds.
func eachCase(v tellCase, want int, aspects [][]aspect, codes []int, check func(v tellCase, want int)) {
	if len(aspects) == 0 {
		check(v, want)
		return
	}
	for _, a := range aspects[0] {
		next, code := v, want
		a.change(&next)
		if a.holds && code == 0 {
			code = codes[0]
		}
		eachCase(next, code, aspects[1:], codes[1:], check)
	}
}

// Each reason is there alone and beside all choices of the other ones.
func TestP13TheFirstReasonCounts(t *testing.T) {
	aspects := [][]aspect{
		times(), allPlaces(),
		append(paths(false, [2]string{"/x", "/x"}, [2]string{"/x/", "/x/y"}, [2]string{"/x", "/x/y"}), paths(true, [2]string{"/x", "/xy"}, [2]string{"/x/", "/x"}, [2]string{"/x/y", "/x"})...),
		channels(func(v *tellCase, needed, given bool) { v.c.Secure, v.r.Safe = needed, given }),
		channels(func(v *tellCase, needed, given bool) { v.c.HttpOnly, v.r.Http = needed, given }),
		sites(),
	}
	codes := []int{impl.ErrDate, impl.ErrDomain, impl.ErrForm, impl.ErrSecure, impl.ErrHttp, impl.ErrSite}
	counts := map[int]int{}
	eachCase(tellCase{c: forAll(), r: someRequest()}, 0, aspects, codes, func(v tellCase, want int) {
		counts[want]++
		got, code := impl.WhyNot(v.c, v.r, v.now)
		if got != want || code != 0 || impl.Matches(v.c, v.r, v.now) != (want == 0) {
			t.Errorf("WhyNot(%s, %s, %d) = %d, %d, want %d", shownCookie(v.c), shownRequest(v.r), v.now, got, code, want)
		}
	})
	for _, code := range append(codes, 0) {
		if counts[code] < 100 {
			t.Errorf("only %d cases have the reason %d", counts[code], code)
		}
	}
}

func badRequests() []impl.Request {
	list := []impl.Request{{}, {Host: "b.a.example"}, {Path: "/x/y"}, {Safe: true, Http: true, Same: true, Top: true}}
	for _, path := range []string{"", "x", " /", "/\n", "/x\x7f", filled("/", "p", 61), filled("/", "p", impl.MaxText+1)} {
		list = append(list, requestWith(func(r *impl.Request) { r.Path = path }))
	}
	for _, host := range []string{"", "B.a.example", ".a", "a.", "a b", "*.a", filled("", "a", 41), filled("", "a", impl.MaxText+1)} {
		list = append(list, requestWith(func(r *impl.Request) { r.Host = host }))
	}
	return list
}

func checkNoReason(t *testing.T, c impl.Cookie, r impl.Request) {
	t.Helper()
	for _, now := range []int{0, 49, 50, -1, impl.Forever, math.MaxInt, math.MinInt} {
		if got, code := checkWhy(t, c, r, now); got != 0 || code != impl.ErrBad {
			t.Errorf("WhyNot(%s, %s, %d) = %d, %d, want ErrBad", shownCookie(c), shownRequest(r), now, got, code)
		}
	}
}

// The same fields would have the cookie sent, or not, if they were valid.
func TestP13CookiesAndRequestsThatAreNotValid(t *testing.T) {
	bad := []impl.Cookie{{}}
	for _, change := range []cookieChange{
		func(c *impl.Cookie) { c.Id = 0 },
		func(c *impl.Cookie) { c.Id = 1000000000001 },
		func(c *impl.Cookie) { c.Name, c.Value = "", "" },
		func(c *impl.Cookie) { c.Name = "n=" },
		func(c *impl.Cookie) { c.Value = filled("", "v", 101) },
		func(c *impl.Cookie) { c.Domain = "B.a.example" },
		func(c *impl.Cookie) { c.Domain = "" },
		func(c *impl.Cookie) { c.Path = "" },
		func(c *impl.Cookie) { c.Path = "x" },
		func(c *impl.Cookie) { c.Path = filled("/", "p", 61) },
		func(c *impl.Cookie) { c.Site = 0 },
		func(c *impl.Cookie) { c.Site = 5 },
		func(c *impl.Cookie) { c.Expires = 0 },
		func(c *impl.Cookie) { c.Expires = -1 },
		func(c *impl.Cookie) { c.Expires = impl.Forever + 1 },
		func(c *impl.Cookie) { c.Made = -1 },
		func(c *impl.Cookie) { c.Used = 9 },
		func(c *impl.Cookie) { c.Used = 1000000000001 },
	} {
		c := forAll()
		change(&c)
		bad = append(bad, c)
	}
	for _, c := range append(bad, badCookies()...) {
		checkNoReason(t, c, someRequest())
		checkNoReason(t, c, requestWith(func(r *impl.Request) { *r = impl.Request{Host: "zap", Path: "/"} }))
		for _, r := range badRequests() {
			checkNoReason(t, c, r)
		}
	}
	for _, r := range badRequests() {
		checkNoReason(t, forAll(), r)
		checkNoReason(t, fullCookie(), r)
	}
}

func TestP1AnyIntegerInAReason(t *testing.T) {
	for _, n := range []int{0, 1, -1, 2, 3, 4, 5, 10, 20, 49, 50, 51, 256, 1 << 32, 1<<32 + 50, impl.MaxDecimal, impl.MaxDecimal + 1, impl.Forever, impl.Forever + 1, -impl.Forever, 1 << 62, math.MaxInt - 1, math.MaxInt, math.MinInt} {
		for _, change := range []cookieChange{
			unchanged, overAt(n), usedAt(n),
			func(c *impl.Cookie) { c.Id = n },
			func(c *impl.Cookie) { c.Site = n },
			func(c *impl.Cookie) { c.Made = n },
		} {
			c := forAll()
			change(&c)
			for _, now := range []int{n, n - 1, 0, 49, 50, math.MaxInt, math.MinInt} {
				checkWhy(t, c, someRequest(), now)
				checkWhy(t, c, impl.Request{Host: "b.a.example", Path: "/x/y"}, now)
			}
		}
	}
}

func TestP13ReasonsAgainstFields(t *testing.T) {
	source, counts, w := rand.New(rand.NewSource(31)), map[int]int{}, newJarWords(32)
	for _, c := range randomCookies(33, 20000) {
		r := w.request()
		r.Path = w.pick(words("/ /a /a/ /a/b /ab /b"))
		if source.Intn(2) == 0 {
			r.Host = c.Domain
		}
		reason, code := checkWhy(t, c, r, source.Intn(4))
		if counts[reason]++; code != 0 {
			counts[-1]++
		}
	}
	for _, reason := range []int{-1, 0, impl.ErrDate, impl.ErrDomain, impl.ErrForm, impl.ErrSecure, impl.ErrHttp, impl.ErrSite} {
		if counts[reason] < 100 {
			t.Errorf("only %d of 20000 cases have the reason %d", counts[reason], reason)
		}
	}
}
