package tests

import (
	"slices"
	"testing"

	"loop.example/g00803/impl"
)

func idsOf(j impl.Jar) []int {
	var ids []int
	for _, c := range j.Cookies {
		ids = append(ids, c.Id)
	}
	return ids
}

// checkStored stores a header that is accepted, and expects the Ids of the cookies that are then in the jar.
func checkStored(t *testing.T, what string, j impl.Jar, host, header string, want ...int) impl.Jar {
	t.Helper()
	r := requestWith(func(r *impl.Request) { r.Host = host })
	got, told, code := checkStore(t, j, r, header)
	if told != 0 || code != 0 || !slices.Equal(idsOf(got), want) {
		t.Errorf("%s: %s in %s leaves the Ids %v with the codes %d and %d, want %v", what, shown(header), shownJar(j), idsOf(got), told, code, want)
	}
	return got
}

func TestP12AcceptedCookiesAreInTheJar(t *testing.T) {
	j, _ := impl.NewJar(jarRules(), 12, 6)
	for _, header := range []string{"a=b", "n m = v=w ;Secure", "=c; Max-Age=1; HttpOnly", "d; Domain=a.example", "e=; Domain=.B.A.EXAMPLE; Path=/q; SameSite=Lax", "f=1; Expires=1 jan 1970 0:0:1; SameSite=strict"} {
		next, told, code := checkStore(t, j, someRequest(), header)
		if told != 0 || code != 0 || len(next.Cookies) != len(j.Cookies)+1 || next.Next != j.Next+1 {
			t.Errorf("StoreHeader of %q = %s, %d, %d", header, shownJar(next), told, code)
		}
		j = next
	}
	want := []impl.Cookie{
		{Id: 1, Name: "a", Value: "b", Domain: "b.a.example", Path: "/x", HostOnly: true, Site: 4, Expires: impl.Forever},
		{Id: 2, Name: "n m", Value: "v=w", Domain: "b.a.example", Path: "/x", HostOnly: true, Secure: true, Site: 4, Expires: impl.Forever},
		{Id: 3, Value: "c", Domain: "b.a.example", Path: "/x", HostOnly: true, HttpOnly: true, Site: 4, Expires: 1},
		{Id: 4, Value: "d", Domain: "a.example", Path: "/x", Site: 4, Expires: impl.Forever},
		{Id: 5, Name: "e", Domain: "b.a.example", Path: "/q", Site: 2, Expires: impl.Forever},
		{Id: 6, Name: "f", Value: "1", Domain: "b.a.example", Path: "/x", HostOnly: true, Site: 3, Expires: 1},
	}
	if !slices.Equal(j.Cookies, want) {
		t.Errorf("the cookies of the jar are %s, want %s", shownCookies(j.Cookies), shownCookies(want))
	}
}

func TestP11HeadersThatAreRefused(t *testing.T) {
	unsafe := requestWith(func(r *impl.Request) { r.Safe = false })
	script := requestWith(func(r *impl.Request) { r.Http = false })
	far := requestWith(func(r *impl.Request) { r.Same, r.Top = false, false })
	jars := []impl.Jar{emptyJar(), someJar(), jarOf(old(3, func(c *impl.Cookie) { c.Secure, c.HttpOnly = true, true }))}
	for _, v := range []struct {
		r      impl.Request
		header string
		told   int
	}{
		{someRequest(), "", impl.ErrNone}, {someRequest(), "=", impl.ErrNone}, {someRequest(), "; a=b", impl.ErrNone}, {someRequest(), "a\n=b", impl.ErrBad}, {someRequest(), "a=b; x=\x7f", impl.ErrBad}, {someRequest(), filled("a=", "b", 102), impl.ErrSize}, {someRequest(), filled("a=", "b", 400), impl.ErrSize},
		{someRequest(), "a=b; domain=x y", impl.ErrDomain}, {someRequest(), "a=b; domain=..a.example", impl.ErrDomain}, {someRequest(), "a=b; domain=c.example", impl.ErrDomain}, {someRequest(), "a=b; domain=example", impl.ErrSuffix}, {someRequest(), "a=b; domain=q.ck", impl.ErrSuffix},
		{unsafe, "a=b; secure", impl.ErrSecure}, {script, "a=b; httponly", impl.ErrHttp}, {far, "a=b", impl.ErrSite}, {someRequest(), "a=b; samesite=none", impl.ErrSite}, {someRequest(), "__Secure-a=b", impl.ErrPrefix}, {someRequest(), "__host-a=b; secure", impl.ErrPrefix},
	} {
		for _, j := range jars {
			if got, told, code := checkStore(t, j, v.r, v.header); told != v.told || code != 0 || !equalJars(got, j) {
				t.Errorf("StoreHeader(%s, %s, %s) = %s, %d, %d, want %d and the same jar", shownJar(j), shownRequest(v.r), shown(v.header), shownJar(got), told, code, v.told)
			}
		}
	}
	covered := jars[2]
	for header, want := range map[string]int{"a=c": impl.ErrSecure, "a=; max-age=0": impl.ErrSecure, "a=c; path=/q": 0, "A=c": 0} {
		if _, told, code := checkStore(t, covered, unsafe, header); told != want || code != 0 {
			t.Errorf("StoreHeader of %q with a cookie that covers it has the codes %d and %d, want %d", header, told, code, want)
		}
	}
	for header, want := range map[string]int{"a=c": impl.ErrHttp, "a=; max-age=0": impl.ErrHttp, "a=c; path=/q": 0, "a=c; domain=b.a.example": 0} {
		if _, told, code := checkStore(t, covered, script, header); told != want || code != 0 {
			t.Errorf("StoreHeader of %q with a cookie of its key has the codes %d and %d, want %d", header, told, code, want)
		}
	}
}

// checkStoreCode expects a code of the whole call, with the jar unchanged if that is said, and with nothing else otherwise.
func checkStoreCode(t *testing.T, j impl.Jar, r impl.Request, header string, want int, unchanged bool) {
	t.Helper()
	wantJar := impl.Jar{}
	if unchanged {
		wantJar = j
	}
	if got, told, code := checkStore(t, j, r, header); code != want || told != 0 || !equalJars(got, wantJar) {
		t.Errorf("StoreHeader(%s, %s, %s) = %s, %d, %d, want %s, 0, %d", shownJar(j), shownRequest(r), shown(header), shownJar(got), told, code, shownJar(wantJar), want)
	}
}

func jarWithNext(next int) impl.Jar {
	j := someJar()
	j.Next = next
	return j
}

func TestP11TheOrderOfStoreHeadersCodes(t *testing.T) {
	bad := impl.Request{Host: "A", Path: "/"}
	full := jarWithNext(1000000000000)
	huge := filled("a", "b", impl.MaxText+1)
	for _, header := range []string{filled("a=b; ", "x", 401), filled("", "\n", 401), filled("a=", "b", impl.MaxText), filled("a=b; domain=x y;", " ", 401)} {
		checkStoreCode(t, someJar(), someRequest(), header, impl.ErrSize, true)
		checkStoreCode(t, full, someRequest(), header, impl.ErrSize, true)
		checkStoreCode(t, impl.Jar{}, someRequest(), header, impl.ErrBad, false)
		checkStoreCode(t, someJar(), bad, header, impl.ErrBad, false)
	}
	for _, header := range []string{"a=b", "", "\n", "a=b; domain=x y", filled("a=b; ", "x", 400)} {
		checkStoreCode(t, full, someRequest(), header, impl.ErrFull, true)
		checkStoreCode(t, full, bad, header, impl.ErrBad, false)
		checkStoreCode(t, jarWithNext(1000000000001), someRequest(), header, impl.ErrBad, false)
	}
	for _, j := range []impl.Jar{someJar(), full, {}} {
		checkStoreCode(t, j, someRequest(), huge, impl.ErrLong, false)
		checkStoreCode(t, j, bad, huge, impl.ErrLong, false)
	}
}

func TestP11HeadersOfMaxHeaderBytes(t *testing.T) {
	for _, header := range []string{filled("a=b;", " ", 399), filled("a=b;", " ", 400), filled("a=b; x=", "y", 400)} {
		checkStored(t, "a long header", jarWithNext(10), "z.example", header, 2, 9, 10)
	}
	checkStoreCode(t, someJar(), someRequest(), filled("a=b;", " ", 401), impl.ErrSize, true)
}

func TestP11NextUpToMaxDecimal(t *testing.T) {
	j := checkStored(t, "the last Id", jarWithNext(999999999999), "z.example", "a=b", 2, 9, 999999999999)
	if j.Next != 1000000000000 || !impl.JarOK(j) {
		t.Errorf("after the last Id the jar is %s", shownJar(j))
	}
	checkStoreCode(t, j, someRequest(), "a=b", impl.ErrFull, true)
	if c, code := checkCookieFrom(t, j, someRequest(), plain("a", "b")); code != 0 || c.Id != 1000000000000 {
		t.Errorf("CookieFrom with Next at MaxDecimal = %s, %d", shownCookie(c), code)
	}
}

// The party of a.example has the Ids 2 and 5, and the jar has three cookies.
func partyJar(changes ...cookieChange) impl.Jar {
	j := someJar()
	j.Cookies[1].Expires, j.Cookies[2].Used = impl.Forever, 90
	for i, change := range changes {
		change(&j.Cookies[i])
	}
	return j
}

func unchanged(c *impl.Cookie) {}

func secure(c *impl.Cookie) { c.Secure = true }

func usedAt(n int) cookieChange { return func(c *impl.Cookie) { c.Used = n } }

func overAt(n int) cookieChange { return func(c *impl.Cookie) { c.Expires = n } }

func atLimits(j impl.Jar, limit, perParty int) impl.Jar {
	j.Limit, j.PerParty = limit, perParty
	return j
}

func TestP12RoomInAParty(t *testing.T) {
	const host = "c.a.example"
	checkStored(t, "room", atLimits(partyJar(), 4, 3), host, "a=b", 2, 5, 9, 10)
	checkStored(t, "the smaller Id", atLimits(partyJar(), 4, 2), host, "a=b", 5, 9, 10)
	checkStored(t, "the smaller Used", atLimits(partyJar(usedAt(60), usedAt(50)), 4, 2), host, "a=b", 2, 9, 10)
	checkStored(t, "not Secure", atLimits(partyJar(secure, usedAt(100)), 4, 2), host, "a=b", 2, 9, 10)
	checkStored(t, "expired", atLimits(partyJar(unchanged, func(c *impl.Cookie) { c.Secure, c.Expires, c.Used = true, 100, 100 }), 4, 2), host, "a=b", 2, 9, 10)
	checkStored(t, "not yet expired", atLimits(partyJar(unchanged, overAt(101)), 4, 2), host, "a=b", 5, 9, 10)
	checkStored(t, "the other party goes last", atLimits(partyJar(unchanged, unchanged, func(c *impl.Cookie) { c.Expires, c.Used = 1, 10 }), 4, 2), host, "a=b", 5, 9, 10)
	checkStored(t, "another party", atLimits(partyJar(), 4, 2), "a.zap", "a=b", 2, 5, 9, 10)
	checkStored(t, "one for each party", atLimits(partyJar(func(c *impl.Cookie) { c.Domain = "d.example" }), 4, 1), host, "a=b", 2, 9, 10)
}

func TestP12RoomInTheJar(t *testing.T) {
	const host = "a.zap"
	checkStored(t, "the smaller Id", atLimits(partyJar(), 3, 2), host, "a=b", 5, 9, 10)
	checkStored(t, "the smaller Used", atLimits(partyJar(unchanged, unchanged, usedAt(50)), 3, 2), host, "a=b", 2, 5, 10)
	checkStored(t, "not Secure", atLimits(partyJar(secure, usedAt(100), secure), 3, 2), host, "a=b", 2, 9, 10)
	checkStored(t, "expired", atLimits(partyJar(usedAt(10), unchanged, func(c *impl.Cookie) { c.Secure, c.Expires, c.Used = true, 100, 100 }), 3, 2), host, "a=b", 2, 5, 10)
	checkStored(t, "not yet expired", atLimits(partyJar(unchanged, overAt(101)), 3, 2), host, "a=b", 5, 9, 10)
	single := jarOf(cookieOf(3, "n", "a.example", false))
	checkStored(t, "a single cookie", atLimits(single, 1, 1), host, "a=b", 20)
	checkStored(t, "a single cookie of the party", atLimits(single, 1, 1), "b.a.example", "a=b", 20)
	checkStored(t, "one for each party", atLimits(single, 2, 1), "b.a.example", "a=b", 20)
}

// What the party loses makes room in the jar too: no second cookie goes.
func TestP12RoomInThePartyAndInTheJar(t *testing.T) {
	const host = "c.a.example"
	checkStored(t, "both are full", partyJar(), host, "a=b", 5, 9, 10)
	checkStored(t, "another would go first", partyJar(unchanged, unchanged, func(c *impl.Cookie) { c.Expires, c.Used = 1, 10 }), host, "a=b", 5, 9, 10)
	checkStored(t, "only the jar is full", atLimits(partyJar(unchanged, unchanged, usedAt(10)), 3, 3), host, "a=b", 2, 5, 10)
}

// All other cookies are Secure, or used at Now too, and have lower Ids.
func TestP12TheNewCookieStaysThoughItWouldGoFirst(t *testing.T) {
	late := func(c *impl.Cookie) { c.Secure, c.Used = true, 100 }
	for _, limits := range [][2]int{{3, 2}, {4, 2}, {3, 3}} {
		j := atLimits(partyJar(late, late, late), limits[0], limits[1])
		got := checkStored(t, "the new one stays", j, "c.a.example", "a=b; max-age=1", 5, 9, 10)
		c := got.Cookies[2]
		for _, other := range j.Cookies {
			if !impl.GoesFirst(c, other, 100) {
				t.Errorf("%s does not go before %s", shownCookie(c), shownCookie(other))
			}
		}
	}
}

func TestP12CookiesOfOneKeyAreReplaced(t *testing.T) {
	j := jarOf(old(3, unchanged), old(7, func(c *impl.Cookie) { c.Name = "other" }))
	got := checkStored(t, "the same key", j, "b.a.example", "a=c; max-age=5; secure", 7, 20)
	want := impl.Cookie{Id: 20, Name: "a", Value: "c", Domain: "b.a.example", Path: "/x", HostOnly: true, Secure: true, Site: 4, Expires: 105, Made: 10, Used: 100}
	if got.Cookies[1] != want || got.Next != 21 {
		t.Errorf("the replaced cookie is %s, want %s", shownCookie(got.Cookies[1]), shownCookie(want))
	}
	for _, header := range []string{"A=c", "a=c; path=/", "a=c; path=/x/", "a=c; domain=b.a.example", "a=c; domain=a.example"} {
		got := checkStored(t, "another key", j, "b.a.example", header, 3, 7, 20)
		if c := got.Cookies[2]; c.Made != 100 {
			t.Errorf("the cookie of %s is %s", header, shownCookie(c))
		}
	}
	// A full jar and a full party have room for a cookie that replaces one.
	checkStored(t, "a full jar", atLimits(j, 2, 2), "b.a.example", "a=c", 7, 20)
	checkStored(t, "a full jar", atLimits(j, 2, 12), "b.a.example", "a=c", 7, 20)
	j.Cookies[0].Expires = 1
	checkStored(t, "the same key, expired", j, "b.a.example", "a=c", 7, 20)
}

func TestP12CookiesThatHaveExpired(t *testing.T) {
	j := jarOf(old(3, unchanged), old(7, func(c *impl.Cookie) { c.Name = "other" }))
	for _, attribute := range []string{"max-age=0", "max-age=-1", "expires=1 jan 1970 0:1:40", "expires=1 jan 1970 0:0:0", "max-age=0; expires=1 jan 1999 0:0:0"} {
		for _, at := range []impl.Jar{j, atLimits(j, 2, 2)} {
			got := checkStored(t, "with one of its key", at, "b.a.example", "a=b; "+attribute, 7)
			again := checkStored(t, "without one of its key", got, "b.a.example", "a=b; "+attribute, 7)
			if got.Next != 21 || again.Next != 22 {
				t.Errorf("Next is %d and %d after cookies that have expired", got.Next, again.Next)
			}
			checkStored(t, "another key", at, "b.a.example", "b=b; "+attribute, 3, 7)
		}
	}
	checkStored(t, "one second left", j, "b.a.example", "a=b; expires=1 jan 1970 0:1:41", 7, 20)
	checkStored(t, "an Age before an Expires", j, "b.a.example", "a=b; max-age=1; expires=1 jan 1970 0:1:40", 7, 20)
}

func TestP11SeveralHeaders(t *testing.T) {
	good := []string{"a=1", "b=2", "c=3", "d=4", "e=5", "f=6", "g=7", "h=8", "i=9", "j=10", "k=11", "l=12"}
	zeros := make([]int, 12)
	for count := range 13 {
		j, told, code := checkStoreMany(t, atLimits(emptyJar(), 12, 12), someRequest(), good[:count])
		if !slices.Equal(told, zeros[:count]) || code != 0 || len(j.Cookies) != count || j.Next != 20+count {
			t.Errorf("StoreMany of %d headers = %s, %v, %d", count, shownJar(j), told, code)
		}
	}
	for _, v := range []struct {
		headers []string
		told    []int
		ids     []int
	}{
		{[]string{"", "a=1", "a\n=b", "b=2; domain=x y", "b=2", filled("a=", "b", 102), "a=3; secure", "b=2; domain=example"}, []int{impl.ErrNone, 0, impl.ErrBad, impl.ErrDomain, 0, impl.ErrSize, 0, impl.ErrSuffix}, []int{21, 22}},
		{[]string{"a=1", "a=2", "a=3"}, []int{0, 0, 0}, []int{22}}, {[]string{"a=1", "a=; max-age=0"}, []int{0, 0}, nil}, {[]string{"a=; max-age=0", "a=1"}, []int{0, 0}, []int{21}},
		{[]string{"__host-a=1", "a=1; samesite=none"}, []int{impl.ErrPrefix, impl.ErrSite}, nil}, {slices.Repeat([]string{"a=1"}, 12), zeros, []int{31}}, {slices.Repeat([]string{""}, 12), slices.Repeat([]int{impl.ErrNone}, 12), nil},
	} {
		j, told, code := checkStoreMany(t, emptyJar(), someRequest(), v.headers)
		if !slices.Equal(told, v.told) || code != 0 || !slices.Equal(idsOf(j), v.ids) {
			t.Errorf("StoreMany of %s = %s, %v, %d, want %v and the Ids %v", shownRules(v.headers), shownJar(j), told, code, v.told, v.ids)
		}
	}
	// A header is met by the cookies of the headers before it.
	unsafe := requestWith(func(r *impl.Request) { r.Safe = false })
	j, _, _ := checkStoreMany(t, emptyJar(), someRequest(), []string{"a=1; secure; path=/"})
	if _, told, code := checkStoreMany(t, j, unsafe, []string{"a=2", "b=1", "a=3; domain=a.example"}); !slices.Equal(told, []int{impl.ErrSecure, 0, impl.ErrSecure}) || code != 0 {
		t.Errorf("StoreMany with a cookie that covers has %v, %d", told, code)
	}
}

// checkManyCode expects a code of the whole call, with the jar unchanged if that is said.
func checkManyCode(t *testing.T, j impl.Jar, r impl.Request, headers []string, want int, unchanged bool) {
	t.Helper()
	wantJar := impl.Jar{}
	if unchanged {
		wantJar = j
	}
	if got, told, code := checkStoreMany(t, j, r, headers); code != want || len(told) != 0 || !equalJars(got, wantJar) {
		t.Errorf("StoreMany(%s, %s, %s) = %s, %v, %d, want %s, nothing, %d", shownJar(j), shownRequest(r), shownRules(headers), shownJar(got), told, code, shownJar(wantJar), want)
	}
}

func TestP11TheOrderOfStoreManysCodes(t *testing.T) {
	bad := impl.Request{Host: "A", Path: "/"}
	long := filled("a=b; ", "x", 401)
	full := jarWithNext(1000000000000 - 11)
	for _, r := range []impl.Request{someRequest(), bad} {
		for _, j := range []impl.Jar{someJar(), full, {}} {
			for _, header := range []string{"a=b", long, filled("", "x", impl.MaxText+1)} {
				checkManyCode(t, j, r, slices.Repeat([]string{header}, impl.MaxList+1), impl.ErrLong, false)
				for _, count := range []int{0, 1, 12, 13, impl.MaxList} {
					headers := slices.Repeat([]string{header}, count)
					switch {
					case j.Limit == 0 || r == bad:
						checkManyCode(t, j, r, headers, impl.ErrBad, false)
					case count > 12:
						checkManyCode(t, j, r, headers, impl.ErrMany, true)
					case count > 0 && header != "a=b":
						checkManyCode(t, j, r, headers, impl.ErrSize, true)
					case j.Next == full.Next:
						checkManyCode(t, j, r, headers, impl.ErrFull, true)
					}
				}
			}
		}
	}
}

func TestP11SeveralHeadersUpToTheLimits(t *testing.T) {
	good := slices.Repeat([]string{"a=b"}, 12)
	for _, next := range []int{1000000000000 - 13, 1000000000000 - 12} {
		j, told, code := checkStoreMany(t, jarWithNext(next), someRequest(), good)
		if code != 0 || len(told) != 12 || j.Next != next+12 || !impl.JarOK(j) {
			t.Errorf("StoreMany with Next %d = %s, %v, %d", next, shownJar(j), told, code)
		}
	}
	for _, next := range []int{1000000000000 - 11, 1000000000000 - 1, 1000000000000} {
		checkManyCode(t, jarWithNext(next), someRequest(), nil, impl.ErrFull, true)
		checkManyCode(t, jarWithNext(next), someRequest(), good, impl.ErrFull, true)
	}
	for place := range 12 {
		headers := slices.Clone(good)
		headers[place] = filled("a=b;", " ", 400)
		if _, told, code := checkStoreMany(t, someJar(), someRequest(), headers); code != 0 || len(told) != 12 {
			t.Errorf("StoreMany with a header of 400 bytes has %v, %d", told, code)
		}
		headers[place] += " "
		checkManyCode(t, someJar(), someRequest(), headers, impl.ErrSize, true)
		// The length of a header counts before what is in it, of all headers.
		headers[11-place] = "a\n=b"
		checkManyCode(t, someJar(), someRequest(), headers, impl.ErrSize, true)
	}
}
