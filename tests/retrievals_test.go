package tests

import (
	"slices"
	"strings"
	"testing"

	"loop.example/g00803/impl"
)

// pathCookie is for b.a.example, and not used yet.
func pathCookie(id int, name, value, path string, made int) impl.Cookie {
	return impl.Cookie{Id: id, Name: name, Value: value, Domain: "b.a.example", Path: path, Site: impl.SiteDefault, Expires: impl.Forever, Made: made, Used: made}
}

// tellJar has the cookies of two requests, some for each reason that keeps one from being sent, and another order than that of sending.
func tellJar() impl.Jar {
	j := jarOf(
		pathCookie(2, "one", "1", "/", 30),
		pathCookie(3, "two", "2", "/x", 30),
		pathCookie(5, "three", "3", "/x", 20),
		pathCookie(6, "late", "4", "/x", 20),
		pathCookie(7, "", "five", "/", 10),
		pathCookie(8, "six", "", "/x/y", 40),
		pathCookie(9, "far", "7", "/", 10),
		pathCookie(11, "deep", "8", "/x/y/z", 10),
		pathCookie(12, "safe", "9", "/x/", 10),
		pathCookie(15, "http", "10", "/", 10),
		pathCookie(16, "strict", "11", "/", 30),
	)
	j.PerParty = 12
	j.Cookies[3].Expires = 100
	j.Cookies[6].Domain, j.Cookies[6].HostOnly = "a.example", true
	j.Cookies[8].Secure, j.Cookies[9].HttpOnly, j.Cookies[10].Site = true, true, impl.SiteStrict
	return j
}

// checkTold expects a header, and the Ids of the cookies in it.
func checkTold(t *testing.T, what string, j impl.Jar, r impl.Request, want string, ids ...int) impl.Jar {
	t.Helper()
	list, after, header, code := checkRetrieval(t, j, r)
	if got := idsOf(impl.Jar{Cookies: list}); !slices.Equal(got, ids) || header != want || code != 0 {
		t.Errorf("%s: the request %s gets %q with the Ids %v and the code %d, want %q with %v", what, shownRequest(r), header, got, code, want, ids)
	}
	return after
}

func TestP13CookiesOfARequest(t *testing.T) {
	j := tellJar()
	checkTold(t, "all but three", j, someRequest(), "six=; safe=9; three=3; two=2; five; http=10; one=1; strict=11", 8, 12, 5, 3, 7, 15, 2, 16)
	for _, v := range []struct {
		what   string
		change requestChange
		want   string
		ids    []int
	}{
		{"not safe", func(r *impl.Request) { r.Safe = false }, "six=; three=3; two=2; five; http=10; one=1; strict=11", []int{8, 5, 3, 7, 15, 2, 16}},
		{"a script", func(r *impl.Request) { r.Http = false }, "six=; safe=9; three=3; two=2; five; one=1; strict=11", []int{8, 12, 5, 3, 7, 2, 16}},
		{"not on top", func(r *impl.Request) { r.Top = false }, "six=; safe=9; three=3; two=2; five; http=10; one=1; strict=11", []int{8, 12, 5, 3, 7, 15, 2, 16}},
		{"another site", func(r *impl.Request) { r.Same = false }, "six=; safe=9; three=3; two=2; five; http=10; one=1", []int{8, 12, 5, 3, 7, 15, 2}},
		{"another site, not on top", func(r *impl.Request) { r.Same, r.Top = false, false }, "", nil},
		{"a deeper path", func(r *impl.Request) { r.Path = "/x/y/z" }, "deep=8; six=; safe=9; three=3; two=2; five; http=10; one=1; strict=11", []int{11, 8, 12, 5, 3, 7, 15, 2, 16}},
		{"a shorter path", func(r *impl.Request) { r.Path = "/x" }, "three=3; two=2; five; http=10; one=1; strict=11", []int{5, 3, 7, 15, 2, 16}},
		{"the top path", func(r *impl.Request) { r.Path = "/" }, "five; http=10; one=1; strict=11", []int{7, 15, 2, 16}},
		{"a host below", func(r *impl.Request) { r.Host, r.Path = "c.b.a.example", "/" }, "five; http=10; one=1; strict=11", []int{7, 15, 2, 16}},
		{"the host of one", func(r *impl.Request) { r.Host = "a.example" }, "far=7", []int{9}},
		{"the host of none", func(r *impl.Request) { r.Host = "example" }, "", nil},
		{"a script that is not safe", func(r *impl.Request) { r.Safe, r.Http, r.Top, r.Path = false, false, false, "/" }, "five; one=1; strict=11", []int{7, 2, 16}},
	} {
		checkTold(t, v.what, j, requestWith(v.change), v.want, v.ids...)
	}
}

func TestP13NoneAndAllOfTheCookies(t *testing.T) {
	for _, j := range []impl.Jar{emptyJar(), {Limit: 1, PerParty: 1, Next: 1}, {Rules: []string{}, Limit: 12, PerParty: 1, Next: 5, Now: 9, Cookies: []impl.Cookie{}}} {
		if after := checkTold(t, "no cookie", j, someRequest(), ""); !impl.SameJar(after, j) {
			t.Errorf("Retrieve of no cookie makes %s of %s", shownJar(after), shownJar(j))
		}
	}
	if after := checkTold(t, "none that matches", tellJar(), requestWith(func(r *impl.Request) { r.Host = "zap" }), ""); !impl.SameJar(after, tellJar()) {
		t.Errorf("Retrieve of no cookie makes %s of %s", shownJar(after), shownJar(tellJar()))
	}
	one := jarOf(pathCookie(3, "a", "b", "/x/y", 10))
	checkTold(t, "a single one", one, someRequest(), "a=b", 3)
	checkTold(t, "not the single one", one, requestWith(func(r *impl.Request) { r.Path = "/x" }), "")
	full := jarOf(partyCookies(1, 12)...)
	full.PerParty = 12
	for i := range full.Cookies {
		full.Cookies[i].Domain = "b.a.example"
	}
	checkTold(t, "all of the greatest number", full, someRequest(), "n=v; nn=v; nnn=v; nnnn=v; nnnnn=v; nnnnnn=v; nnnnnnn=v; nnnnnnnn=v; nnnnnnnnn=v; nnnnnnnnnn=v; nnnnnnnnnnn=v; nnnnnnnnnnnn=v", 1, 2, 3, 4, 5, 6, 7, 8, 9, 10, 11, 12)
}

// Each cookie alone, each two and so on of those that a request gets: what is sent does not depend on the others in the jar.
func TestP13EachChoiceOfCookies(t *testing.T) {
	all := tellJar().Cookies
	for bits := range 1 << len(all) {
		j := jarOf()
		j.PerParty = 12
		for i, c := range all {
			if bits>>i&1 == 1 {
				j.Cookies = append(j.Cookies, c)
			}
		}
		checkRetrieval(t, j, someRequest())
	}
}

func TestP13TheLongestHeader(t *testing.T) {
	j := jarOf()
	j.PerParty = 12
	var pairs []string
	for i := range 12 {
		name := strings.Repeat("n", i+1)
		c := pathCookie(i+1, name, strings.Repeat("v", 99-i), filled("/", "p", 60), 10)
		j.Cookies, pairs = append(j.Cookies, c), append(pairs, name+"="+c.Value)
	}
	r := requestWith(func(r *impl.Request) { r.Path = filled("/", "p", 60) })
	checkTold(t, "the longest header", j, r, strings.Join(pairs, "; "), 1, 2, 3, 4, 5, 6, 7, 8, 9, 10, 11, 12)
}

func usedOf(j impl.Jar) map[int]int {
	used := map[int]int{}
	for _, c := range j.Cookies {
		used[c.Id] = c.Used
	}
	return used
}

// checkUsed expects the Used of the cookies whose Ids are given, and that of the jar before for all others.
func checkUsed(t *testing.T, before, after impl.Jar, now int, ids ...int) {
	t.Helper()
	want := usedOf(before)
	for _, id := range ids {
		want[id] = now
	}
	for id, used := range usedOf(after) {
		if used != want[id] {
			t.Errorf("the cookie %d is used at %d, want %d", id, used, want[id])
		}
	}
	for i := range after.Cookies {
		after.Cookies[i].Used = before.Cookies[i].Used
	}
	if !equalJars(after, before) {
		t.Errorf("but for Used %s became %s", shownJar(before), shownJar(after))
	}
}

func TestP13OnlyTheCookiesThatAreSentAreUsed(t *testing.T) {
	j := tellJar()
	first, _, _ := impl.Retrieve(j, someRequest())
	checkUsed(t, j, copiedJar(first), 100, 2, 3, 5, 7, 8, 12, 15, 16)
	for _, n := range []int{0, 1, 50, impl.MaxDecimal} {
		late, _ := impl.Advance(first, n)
		r := requestWith(func(r *impl.Request) { r.Path, r.Http = "/x", false })
		second := checkTold(t, "a second retrieval", late, r, "three=3; two=2; five; one=1; strict=11", 5, 3, 7, 2, 16)
		checkUsed(t, late, copiedJar(second), min(100+n, 1000000000000), 2, 3, 5, 7, 16)
		third := checkTold(t, "another host", second, requestWith(func(r *impl.Request) { r.Host = "a.example" }), "far=7", 9)
		checkUsed(t, second, copiedJar(third), late.Now, 9)
		fourth := checkTold(t, "no cookie", third, requestWith(func(r *impl.Request) { r.Host = "q.ck" }), "")
		checkUsed(t, third, copiedJar(fourth), 0)
	}
}

// What a cookie is used at counts when one has to go.
func TestP13UsedCookiesStayInTheJar(t *testing.T) {
	j := jarOf(pathCookie(2, "a", "1", "/", 10), pathCookie(3, "b", "2", "/", 10))
	j.Cookies[1].Domain, j.Limit = "c.a.example", 2
	after := checkTold(t, "the first one", j, someRequest(), "a=1", 2)
	checkStored(t, "the other one goes", after, "zap", "n=v", 2, 20)
	checkStored(t, "the first one goes", j, "zap", "n=v", 3, 20)
}

func TestP13CookiesThatHaveExpiredAreNotSent(t *testing.T) {
	j := jarOf(pathCookie(2, "a", "1", "/", 10), pathCookie(3, "b", "2", "/", 10), pathCookie(4, "c", "3", "/", 10))
	j.Cookies[0].Expires, j.Cookies[1].Expires = 101, 150
	for n, want := range map[int]string{0: "a=1; b=2; c=3", 1: "b=2; c=3", 49: "b=2; c=3", 50: "c=3", 51: "c=3", impl.MaxDecimal: "c=3"} {
		late, _ := impl.Advance(j, n)
		if _, after, header, code := checkRetrieval(t, late, someRequest()); header != want || code != 0 || len(after.Cookies) != 3 {
			t.Errorf("the header after %d seconds is %q, and the jar has %d cookies", n, header, len(after.Cookies))
		}
	}
}

// The longer path, the smaller Made and the smaller Id, whatever the order in the jar is.
func TestP13CookiesAreSentInOrder(t *testing.T) {
	for _, v := range []struct {
		first, second impl.Cookie
		ids           []int
	}{
		{pathCookie(2, "a", "1", "/", 10), pathCookie(3, "b", "2", "/", 10), []int{2, 3}},
		{pathCookie(2, "a", "1", "/", 11), pathCookie(3, "b", "2", "/", 10), []int{3, 2}},
		{pathCookie(2, "a", "1", "/", 10), pathCookie(3, "b", "2", "/", 11), []int{2, 3}},
		{pathCookie(2, "a", "1", "/", 10), pathCookie(3, "a", "2", "/x", 90), []int{3, 2}},
		{pathCookie(2, "a", "1", "/x/", 90), pathCookie(3, "a", "2", "/x", 10), []int{2, 3}},
		{pathCookie(2, "a", "1", "/x", 10), pathCookie(3, "a", "2", "/x/y", 10), []int{3, 2}},
		{pathCookie(2, "z", "1", "/x", 10), pathCookie(3, "", "a", "/x", 10), []int{2, 3}},
	} {
		header := headerByFields([]impl.Cookie{v.first, v.second})
		if v.ids[0] == 3 {
			header = headerByFields([]impl.Cookie{v.second, v.first})
		}
		checkTold(t, "two cookies", jarOf(v.first, v.second), someRequest(), header, v.ids...)
	}
}

func TestP13PairsOfCookies(t *testing.T) {
	for _, v := range []struct {
		name, value, header string
	}{
		{"n", "v", "n=v"}, {"n", "", "n="}, {"", "v", "v"}, {"", "v=w", "v=w"}, {"n", "v=w", "n=v=w"}, {"", "=", "="}, {"n m", "v w", "n m=v w"}, {filled("", "n", 100), "", filled("", "n", 100) + "="}, {"", filled("", "v", 100), filled("", "v", 100)}, {"\x80", "\xff", "\x80=\xff"},
	} {
		j := jarOf(pathCookie(2, v.name, v.value, "/", 10))
		checkTold(t, "a pair", j, someRequest(), v.header, 2)
		if pairs, code := impl.PairsFor(j, someRequest()); !slices.Equal(pairs, []string{v.name, v.value}) || code != 0 {
			t.Errorf("PairsFor of %q and %q = %q, %d", v.name, v.value, pairs, code)
		}
	}
	want := []string{"six", "", "safe", "9", "three", "3", "two", "2", "", "five", "http", "10", "one", "1", "strict", "11"}
	pairs, code := impl.PairsFor(tellJar(), someRequest())
	_, header, _ := impl.Retrieve(tellJar(), someRequest())
	back, backCode := impl.ReadPairs(header)
	if !slices.Equal(pairs, want) || code != 0 || !slices.Equal(back, want) || backCode != 0 {
		t.Errorf("PairsFor = %q, %d, and of the header %q, %d, want %q", pairs, code, back, backCode, want)
	}
}

// checkNoRetrieval expects ErrBad, and nothing else.
func checkNoRetrieval(t *testing.T, j impl.Jar, r impl.Request) {
	t.Helper()
	list, after, header, code := checkRetrieval(t, j, r)
	if len(list) != 0 || !equalJars(after, impl.Jar{}) || header != "" || code != impl.ErrBad {
		t.Errorf("the retrieval from %s for %s = %s, %s, %q, %d, want ErrBad", shownJar(j), shownRequest(r), shownCookies(list), shownJar(after), header, code)
	}
}

func TestP13JarsAndRequestsThatAreNotValid(t *testing.T) {
	bad := []impl.Jar{{}}
	for _, change := range []jarChange{
		func(j *impl.Jar) { j.Rules = []string{""} },
		func(j *impl.Jar) { j.Rules = words("example example") },
		func(j *impl.Jar) { j.Limit = 10 },
		func(j *impl.Jar) { j.Limit = 13 },
		func(j *impl.Jar) { j.PerParty = 0 },
		func(j *impl.Jar) { j.PerParty = 10 },
		func(j *impl.Jar) { j.Now = -1 },
		func(j *impl.Jar) { j.Now = 39 },
		func(j *impl.Jar) { j.Now = 1000000000001 },
		func(j *impl.Jar) { j.Next = 16 },
		func(j *impl.Jar) { j.Next = 0 },
		func(j *impl.Jar) { j.Next = 1000000000001 },
		func(j *impl.Jar) { j.Cookies[0].Id = 0 },
		func(j *impl.Jar) { j.Cookies[1].Id = 2 },
		func(j *impl.Jar) { j.Cookies[10].Path = "x" },
		func(j *impl.Jar) { j.Cookies[10].Used = 101 },
		func(j *impl.Jar) { j.Cookies[6].Expires = 0 },
		func(j *impl.Jar) { j.Cookies[6].Domain, j.Cookies[6].HostOnly = "example", false },
		func(j *impl.Jar) { slices.Reverse(j.Cookies) },
		func(j *impl.Jar) { j.Cookies = append(j.Cookies, j.Cookies[0]) },
		func(j *impl.Jar) { j.Cookies = manyCookies(impl.MaxList + 1) },
	} {
		j := tellJar()
		change(&j)
		bad = append(bad, j)
	}
	for _, j := range bad {
		checkNoRetrieval(t, j, someRequest())
		for _, r := range badRequests() {
			checkNoRetrieval(t, j, r)
		}
	}
	for _, r := range badRequests() {
		checkNoRetrieval(t, tellJar(), r)
		checkNoRetrieval(t, emptyJar(), r)
	}
}
