package tests

import (
	"math"
	"math/rand"
	"slices"
	"strconv"
	"strings"
	"testing"

	"loop.example/g00803/impl"
)

// pairTextByBytes reports whether t may be a Value, or with noEquals a Name.
func pairTextByBytes(t string, noEquals bool) bool {
	for i := 0; i < len(t); i++ {
		if t[i] == ';' || noEquals && t[i] == '=' {
			return false
		}
	}
	return !controlByBytes(t) && trimByBytes(t) == t
}

func cookieByFields(c impl.Cookie) bool {
	pair := pairTextByBytes(c.Name, true) && pairTextByBytes(c.Value, false) && c.Name+c.Value != "" && len(c.Name+c.Value) <= 100
	path := c.Path != "" && c.Path[0] == '/' && len(c.Path) <= 60 && !controlByBytes(c.Path)
	times := c.Expires > 0 && c.Expires <= 2000000000000 && c.Made >= 0 && c.Made <= c.Used && c.Used <= 1000000000000
	return c.Id > 0 && c.Id <= 1000000000000 && pair && hostByForm(c.Domain) && path && times && slices.Contains([]int{1, 2, 3, 4}, c.Site)
}

// someCookie is valid, and none of its fields is at a limit.
func someCookie() impl.Cookie {
	return impl.Cookie{Id: 5, Name: "sid", Value: "v", Domain: "a.example", Path: "/a", Site: impl.SiteLax, Expires: 50, Made: 10, Used: 20}
}

// fullCookie is valid and has all flags set.
func fullCookie() impl.Cookie {
	return impl.Cookie{Id: 7, Name: "n m", Value: "v=w", Domain: "1.2.3.4", Path: "/q r;/", HostOnly: true, Secure: true, HttpOnly: true, Site: impl.SiteNone, Expires: impl.Forever, Made: 30, Used: 40}
}

func cookieWith(change func(c *impl.Cookie)) impl.Cookie {
	c := someCookie()
	change(&c)
	return c
}

// shownCookie keeps long strings out of a message.
func shownCookie(c impl.Cookie) string {
	fields := []string{strconv.Itoa(c.Id)}
	for _, s := range []string{c.Name, c.Value, c.Domain, c.Path} {
		fields = append(fields, shown(s))
	}
	for _, b := range []bool{c.HostOnly, c.Secure, c.HttpOnly} {
		fields = append(fields, strconv.FormatBool(b))
	}
	for _, n := range []int{c.Site, c.Expires, c.Made, c.Used} {
		fields = append(fields, strconv.Itoa(n))
	}
	return "{" + strings.Join(fields, " ") + "}"
}

// checkCookie also makes sure that the other functions take exactly the cookies that CookieOK takes.
func checkCookie(t *testing.T, c impl.Cookie, want bool) {
	t.Helper()
	if got := impl.CookieOK(c); got != want || got != cookieByFields(c) {
		t.Errorf("CookieOK(%s) = %v, want %v", shownCookie(c), got, want)
	}
	code := impl.ErrBad
	if want {
		code = 0
	}
	if sorted, got := impl.SortCookies([]impl.Cookie{c}); got != code || len(sorted) == 1 != want || want && sorted[0] != c {
		t.Errorf("SortCookies of %s has %d cookies and the code %d, want %d", shownCookie(c), len(sorted), got, code)
	}
	if header, got := impl.HeaderOf([]impl.Cookie{c}); got != code || (header != "") != want {
		t.Errorf("HeaderOf %s = %s, %d, want the code %d", shownCookie(c), shown(header), got, code)
	}
	if impl.SameKey(c, c) != want {
		t.Errorf("SameKey of %s with itself is %v", shownCookie(c), !want)
	}
	for _, other := range []impl.Cookie{c, someCookie(), fullCookie(), {}} {
		checkRelations(t, c, other)
		checkRelations(t, other, c)
	}
}

// checkCookieChange expects that a cookie with the change is valid, or not, whatever its other fields are.
func checkCookieChange(t *testing.T, valid bool, change func(c *impl.Cookie)) {
	t.Helper()
	for _, c := range []impl.Cookie{someCookie(), fullCookie()} {
		change(&c)
		checkCookie(t, c, valid)
	}
}

func TestP8CookieCases(t *testing.T) {
	if impl.Forever != 2000000000000 {
		t.Errorf("Forever is %d", impl.Forever)
	}
	checkCookie(t, someCookie(), true)
	checkCookie(t, fullCookie(), true)
	checkCookie(t, impl.Cookie{}, false)
	checkCookie(t, impl.Cookie{Id: 1, Value: "v", Domain: "a", Path: "/", Site: 1, Expires: 1}, true)
	checkCookie(t, impl.Cookie{Id: 1000000000000, Name: "n", Domain: strings.Repeat("a", 40), Path: filled("/", "p", 60), HostOnly: true, Secure: true, HttpOnly: true, Site: 4, Expires: 2000000000000, Made: 1000000000000, Used: 1000000000000}, true)
}

func TestP8AnyIntegerInACookie(t *testing.T) {
	for _, n := range []int{0, 1, -1, 2, 3, 4, 5, 6, 9, 10, 19, 20, 21, 29, 30, 31, 39, 40, 41, 256, 1 << 32, 1<<32 + 1, impl.MaxDecimal - 1, impl.MaxDecimal, impl.MaxDecimal + 1, impl.Forever - 1, impl.Forever, impl.Forever + 1, -impl.MaxDecimal, -impl.Forever, 1 << 62, -1 << 62, math.MaxInt, math.MinInt} {
		checkCookieChange(t, n >= 1 && n <= 1000000000000, func(c *impl.Cookie) { c.Id = n })
		checkCookieChange(t, n >= 1 && n <= 4, func(c *impl.Cookie) { c.Site = n })
		checkCookieChange(t, n >= 1 && n <= 2000000000000, func(c *impl.Cookie) { c.Expires = n })
		checkCookieChange(t, n >= 0 && n <= 1000000000000, func(c *impl.Cookie) { c.Made, c.Used = n, n })
		checkCookieChange(t, n >= 0 && n <= 1000000000000, func(c *impl.Cookie) { c.Made, c.Used = n, 1000000000000 })
		checkCookieChange(t, n >= 0 && n <= 1000000000000, func(c *impl.Cookie) { c.Made, c.Used = 0, n })
	}
}

func TestP8UsedIsNotBeforeMade(t *testing.T) {
	for _, made := range []int{0, 1, 20, 999999999999, 1000000000000} {
		for _, used := range []int{made - 1, made, made + 1, 0, 1000000000000} {
			checkCookieChange(t, used >= made && used <= 1000000000000, func(c *impl.Cookie) { c.Made, c.Used = made, used })
		}
	}
}

// The times of a cookie do not depend on each other but for Made and Used.
func TestP8ExpiresMayPrecedeMade(t *testing.T) {
	for _, n := range []int{1, 9, 10, 20, 21} {
		checkCookieChange(t, true, func(c *impl.Cookie) { c.Expires = n })
	}
}

func TestP8BytesOfACookie(t *testing.T) {
	for a := range 256 {
		c := string([]byte{byte(a)})
		plainByte := (a >= 32 || a == 9) && a != 127
		blank := c == " " || c == "\t"
		for _, s := range []string{"x" + c + "y", c + "x", "x" + c, c} {
			valid := plainByte && c != ";" && (!blank || s == "x"+c+"y")
			checkCookieChange(t, valid && c != "=", func(k *impl.Cookie) { k.Name = s })
			checkCookieChange(t, valid, func(k *impl.Cookie) { k.Value = s })
			checkCookieChange(t, plainByte, func(k *impl.Cookie) { k.Path = "/" + s })
			checkCookieChange(t, s[0] == '/', func(k *impl.Cookie) { k.Path = s })
			checkCookieChange(t, hostByForm(s), func(k *impl.Cookie) { k.Domain = s })
		}
	}
}

func TestP8PairsOfACookie(t *testing.T) {
	for _, size := range []int{0, 1, 50, 99, 100} {
		name, value := strings.Repeat("n", size), strings.Repeat("v", 100-size)
		checkCookieChange(t, true, func(c *impl.Cookie) { c.Name, c.Value = name, value })
		checkCookieChange(t, false, func(c *impl.Cookie) { c.Name, c.Value = name+"n", value })
		checkCookieChange(t, false, func(c *impl.Cookie) { c.Name, c.Value = name, value+"v" })
	}
	checkCookieChange(t, false, func(c *impl.Cookie) { c.Name, c.Value = "", "" })
	checkCookieChange(t, true, func(c *impl.Cookie) { c.Name = "" })
	checkCookieChange(t, true, func(c *impl.Cookie) { c.Value = "" })
	for _, s := range []string{"=", "a=", "=a", "a=b", "=="} {
		checkCookieChange(t, false, func(c *impl.Cookie) { c.Name = s })
		checkCookieChange(t, true, func(c *impl.Cookie) { c.Name, c.Value = "", s })
	}
}

// What is valid is as in a parsed header, which has the same pair.
func TestP8PairsAsInAParsedHeader(t *testing.T) {
	for _, s := range slices.Concat(wordsOver("a= ;\t\x7f", 4), randomStrings(500)) {
		cut := len(s) / 2
		p := plain(s[:cut], s[cut:])
		c := cookieWith(func(c *impl.Cookie) { c.Name, c.Value = p.Name, p.Value })
		if impl.CookieOK(c) != impl.ParsedOK(p) {
			t.Errorf("CookieOK(%s) = %v, but ParsedOK(%s) = %v", shownCookie(c), impl.CookieOK(c), shownParsed(p), impl.ParsedOK(p))
		}
	}
}

func TestP8DomainsOfACookie(t *testing.T) {
	for _, s := range slices.Concat(nearHosts(300), []string{"", "a", "example", "1.2.3.4", ".a", "a.", "A", "a b", "*.a", "!a", "a.b.c.d.e.f", "a.b.c.d.e.f.g", strings.Repeat("a", 40), strings.Repeat("a", 41)}) {
		checkCookieChange(t, hostByForm(s), func(c *impl.Cookie) { c.Domain = s })
	}
}

func TestP8PathsOfACookie(t *testing.T) {
	for path, valid := range map[string]bool{
		"/": true, "//": true, "/a b": true, "/ ": true, "/a\t": true, "/;": true, "/a;b=c": true, "/=": true, "/\x80": true, "/é": true,
		"": false, "a": false, "a/": false, " /": false, "\t/": false, "\x00/": false, "/\x00": false, "/a\n": false, "/\x1f/": false, "/\x7f": false,
		filled("/", "p", 59): true, filled("/", "p", 60): true, filled("/", "p", 61): false, filled("", "/", 60): true, filled("", "/", 61): false, filled("", "p", 60): false, filled("/", "\x01", 60): false,
	} {
		checkCookieChange(t, valid, func(c *impl.Cookie) { c.Path = path })
	}
}

func TestP1LongStringsInACookie(t *testing.T) {
	for _, length := range []int{impl.MaxText - 1, impl.MaxText, impl.MaxText + 1, 3 * impl.MaxText} {
		for _, b := range []string{"/", "x", " ", ";", "\x01", "."} {
			long := filled("/", b, length)
			for _, change := range []func(c *impl.Cookie){
				func(c *impl.Cookie) { c.Name = long },
				func(c *impl.Cookie) { c.Value = long },
				func(c *impl.Cookie) { c.Name, c.Value = long, long },
				func(c *impl.Cookie) { c.Name, c.Value = "", long },
				func(c *impl.Cookie) { c.Domain = long },
				func(c *impl.Cookie) { c.Path = long },
			} {
				checkCookieChange(t, false, change)
			}
		}
	}
}

// randomCookie has fields of so few values that many cookies are equal in most
// of them. In about one of seven cookies a field is not valid.
func randomCookie(source *rand.Rand) impl.Cookie {
	pick := func(list ...string) string { return list[source.Intn(len(list))] }
	chance := func() bool { return source.Intn(2) == 0 }
	c := impl.Cookie{Id: 1 + source.Intn(4), Name: pick("n", "n", "m", ""), Value: pick("v", "w", "v=w"), Site: 1 + source.Intn(4), HostOnly: chance(), Secure: chance(), HttpOnly: chance()}
	c.Domain = pick("a.example", "a.example", "example", "b.a.example", "c.example", "1.2.3.4", "3.4")
	c.Path = pick("/", "/a", "/a", "/b", "/a/", "/a/b", "/ab", filled("/", "p", 60))
	c.Expires = []int{1, 2, 3, impl.Forever}[source.Intn(4)]
	c.Made = source.Intn(3)
	c.Used = c.Made + source.Intn(3)
	switch source.Intn(40) {
	case 0:
		c.Id = 0
	case 1:
		c.Name = "n="
	case 2:
		c.Domain = ""
	case 3:
		c.Path = "a"
	case 4:
		c.Site = 5
	case 5:
		c.Used = c.Made - 1
	}
	return c
}

func randomCookies(seed int64, count int) []impl.Cookie {
	source := rand.New(rand.NewSource(seed))
	var list []impl.Cookie
	for range count {
		list = append(list, randomCookie(source))
	}
	return list
}

func TestP8CookiesAgainstFields(t *testing.T) {
	valid := 0
	for _, c := range randomCookies(10, 10000) {
		checkCookie(t, c, cookieByFields(c))
		if impl.CookieOK(c) {
			valid++
		}
	}
	if valid < 5000 || valid > 9900 {
		t.Errorf("%d of 10000 cookies are valid", valid)
	}
}
