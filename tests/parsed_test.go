package tests

import (
	"math"
	"math/rand"
	"strconv"
	"strings"
	"testing"
	"time"

	"loop.example/g00803/impl"
)

// textByFields writes any p as if it were valid. What is valid is exactly what parseByLast then reads back.
func textByFields(p impl.Parsed) string {
	text := p.Name + "=" + p.Value
	add := func(present bool, name, value string) {
		if present {
			text += "; " + name + value
		}
	}
	add(p.HasExpires, "Expires=", time.Unix(int64(p.Expires), 0).UTC().Format("Mon, 02 Jan 2006 15:04:05 GMT"))
	add(p.HasAge, "Max-Age=", strconv.Itoa(p.Age))
	add(strings.HasPrefix(p.Domain, "."), "Domain=", "."+p.Domain)
	add(p.Domain != "" && p.Domain[0] != '.', "Domain=", p.Domain)
	add(p.HasPath, "Path=", p.Path)
	add(p.Secure, "Secure", "")
	add(p.HttpOnly, "HttpOnly", "")
	add(p.Site == 1, "SameSite=", "None")
	add(p.Site == 2, "SameSite=", "Lax")
	add(p.Site == 3, "SameSite=", "Strict")
	return text
}

func checkRecovered(t *testing.T, p impl.Parsed) {
	t.Helper()
	text, code := impl.SetText(p)
	if want := textByFields(p); text != want || code != 0 || !impl.ParsedOK(p) {
		t.Errorf("SetText(%s) = %s, %d, want %s; ParsedOK is %v", shownParsed(p), shown(text), code, shown(want), impl.ParsedOK(p))
	}
	if again, againCode := impl.ParseSet(text); again != p || againCode != 0 {
		t.Errorf("ParseSet(%s) = %s, %d, want %s", shown(text), shownParsed(again), againCode, shownParsed(p))
	}
}

// shownParsed keeps long strings out of a message.
func shownParsed(p impl.Parsed) string {
	var fields []string
	for _, s := range []string{p.Name, p.Value, p.Domain, p.Path} {
		fields = append(fields, shown(s))
	}
	for _, b := range []bool{p.HasExpires, p.HasAge, p.HasPath, p.Secure, p.HttpOnly} {
		fields = append(fields, strconv.FormatBool(b))
	}
	for _, n := range []int{p.Expires, p.Age, p.Site} {
		fields = append(fields, strconv.Itoa(n))
	}
	return strings.Join(fields, " ")
}

func checkUnparsed(t *testing.T, p impl.Parsed) {
	t.Helper()
	if text, code := impl.SetText(p); text != "" || code != impl.ErrBad || impl.ParsedOK(p) {
		t.Errorf("SetText(%s) = %s, %d, want ErrBad; ParsedOK is %v", shownParsed(p), shown(text), code, impl.ParsedOK(p))
	}
}

func checkParsed(t *testing.T, p impl.Parsed) {
	t.Helper()
	if back, code := parseByLast(textByFields(p)); back == p && code == 0 {
		checkRecovered(t, p)
	} else {
		checkUnparsed(t, p)
	}
}

// with returns the parsed header `a=b` with a change.
func with(change func(p *impl.Parsed)) impl.Parsed {
	p := plain("a", "b")
	change(&p)
	return p
}

// checkChange expects that a header with the change is valid, or not, whatever its other fields are.
func checkChange(t *testing.T, valid bool, change func(p *impl.Parsed)) {
	t.Helper()
	full := impl.Parsed{Name: "n m", Value: "v=w", Domain: "x.y", Path: "/q r", HasExpires: true, HasAge: true, HasPath: true, Expires: 5, Age: -3, Site: impl.SiteStrict, Secure: true, HttpOnly: true}
	for _, p := range []impl.Parsed{plain("a", "b"), full} {
		change(&p)
		checkParsed(t, p)
		if impl.ParsedOK(p) != valid {
			t.Errorf("ParsedOK(%s) is %v", shownParsed(p), !valid)
		}
	}
}

func checkTextCases(t *testing.T, want string, p impl.Parsed) {
	t.Helper()
	if got, code := impl.SetText(p); got != want || code != 0 {
		t.Errorf("SetText(%s) = %q, %d, want %q", shownParsed(p), got, code, want)
	}
	checkRecovered(t, p)
}

func TestP6SetTextCases(t *testing.T) {
	checkTextCases(t, "a=b", plain("a", "b"))
	checkTextCases(t, "=v", plain("", "v"))
	checkTextCases(t, "a=", plain("a", ""))
	checkTextCases(t, "=v=w", plain("", "v=w"))
	checkTextCases(t, "a==", plain("a", "="))
	checkTextCases(t, "A b=C\td", plain("A b", "C\td"))
	checkTextCases(t, "a=b; Expires=Thu, 01 Jan 1970 00:00:00 GMT", with(func(p *impl.Parsed) { p.HasExpires = true }))
	checkTextCases(t, "a=b; Expires=Mon, 01 Jan 1601 00:00:00 GMT", with(func(p *impl.Parsed) { p.HasExpires, p.Expires = true, firstSecond }))
	checkTextCases(t, "a=b; Expires=Fri, 31 Dec 9999 23:59:59 GMT", with(func(p *impl.Parsed) { p.HasExpires, p.Expires = true, lastSecond }))
	checkTextCases(t, "a=b; Max-Age=0", with(func(p *impl.Parsed) { p.HasAge = true }))
	checkTextCases(t, "a=b; Max-Age=-1000000000000", with(func(p *impl.Parsed) { p.HasAge, p.Age = true, -1000000000000 }))
	checkTextCases(t, "a=b; Path=/", with(func(p *impl.Parsed) { p.HasPath, p.Path = true, "/" }))
	checkTextCases(t, "a=b; Secure", with(func(p *impl.Parsed) { p.Secure = true }))
	checkTextCases(t, "a=b; HttpOnly", with(func(p *impl.Parsed) { p.HttpOnly = true }))
	checkTextCases(t, "a=b; SameSite=None", with(func(p *impl.Parsed) { p.Site = impl.SiteNone }))
	checkTextCases(t, "a=b; SameSite=Lax", with(func(p *impl.Parsed) { p.Site = impl.SiteLax }))
	checkTextCases(t, "a=b; SameSite=Strict", with(func(p *impl.Parsed) { p.Site = impl.SiteStrict }))
	checkTextCases(t, "n=v; Expires=Sun, 06 Nov 1994 08:49:37 GMT; Max-Age=60; Domain=a.example; Path=/x y; Secure; HttpOnly; SameSite=Lax",
		impl.Parsed{Name: "n", Value: "v", Domain: "a.example", Path: "/x y", HasExpires: true, HasAge: true, HasPath: true, Expires: 784111777, Age: 60, Site: impl.SiteLax, Secure: true, HttpOnly: true})
}

func TestP6TextsOfDomains(t *testing.T) {
	for domain, want := range map[string]string{"x": "x", "x.y": "x.y", "x.": "x.", ".": "..", ".x": "..x", "..": "...", "..x": "...x", ". x": ".. x", "1.2.3.4": "1.2.3.4", "a b": "a b", "a=b": "a=b", "\x80É": "\x80É", "@[`{": "@[`{"} {
		checkTextCases(t, "a=b; Domain="+want, with(func(p *impl.Parsed) { p.Domain = domain }))
	}
}

func TestP6NoStringMayHoldThese(t *testing.T) {
	for a := range 256 {
		c := string([]byte{byte(a)})
		plainByte := (a >= 32 || a == 9) && a != 127 && c != ";"
		blank := c == " " || c == "\t"
		for _, s := range []string{"x" + c + "y", c + "x", "x" + c, c} {
			valid := plainByte && (!blank || s == "x"+c+"y")
			checkChange(t, valid && c != "=", func(p *impl.Parsed) { p.Name = s })
			checkChange(t, valid, func(p *impl.Parsed) { p.Value = s })
			checkChange(t, valid && !isUpper(byte(a)), func(p *impl.Parsed) { p.Domain = s })
			checkChange(t, plainByte && (!blank || s != "x"+c && s != c), func(p *impl.Parsed) { p.Path, p.HasPath = "/"+s, true })
			checkChange(t, c == "/" && s[:1] == c, func(p *impl.Parsed) { p.Path, p.HasPath = s, true })
		}
	}
}

func TestP6PairsWithoutOrAtTheLimit(t *testing.T) {
	checkUnparsed(t, impl.Parsed{})
	for _, size := range []int{0, 1, 50, 99, 100} {
		name, value := strings.Repeat("n", size), strings.Repeat("v", 100-size)
		checkChange(t, true, func(p *impl.Parsed) { p.Name, p.Value = name, value })
		checkChange(t, false, func(p *impl.Parsed) { p.Name, p.Value = name+"n", value })
		checkChange(t, false, func(p *impl.Parsed) { p.Name, p.Value = name, value+"v" })
	}
	checkChange(t, false, func(p *impl.Parsed) { p.Name, p.Value = "", "" })
	checkChange(t, true, func(p *impl.Parsed) { p.Name = "" })
	checkChange(t, true, func(p *impl.Parsed) { p.Value = "" })
	checkChange(t, true, func(p *impl.Parsed) { p.Name, p.Value = "", "=" })
	for _, name := range []string{"=", "a=", "=a", "a=b", "=="} {
		checkChange(t, false, func(p *impl.Parsed) { p.Name = name })
		checkChange(t, true, func(p *impl.Parsed) { p.Value = name })
	}
}

func TestP6DomainsAtTheLimit(t *testing.T) {
	for domain, valid := range map[string]bool{
		"": true, ".": true, filled("", "d", 60): true, filled("", "d", 61): false, filled("d", ".", 60): true, filled("", "\x80", 60): true,
		filled(".", "d", 59): true, filled(".", "d", 60): false, filled("", ".", 59): true, filled("", ".", 60): false,
		"A": false, "aZ": false, "a.Example": false, "É": true, " .x": false, ".x ": false,
	} {
		checkChange(t, valid, func(p *impl.Parsed) { p.Domain = domain })
	}
}

func TestP6PathsAtTheLimit(t *testing.T) {
	for path, valid := range map[string]bool{
		"/": true, "//": true, "/a b": true, "/=": true, "/;": false, "": false, "a": false, "a/": false, " /": false, "/ ": false, "/a\t": false,
		filled("/", "p", 60): true, filled("/", "p", 61): false, filled("", "/", 60): true, filled("", "p", 60): false,
	} {
		checkChange(t, valid, func(p *impl.Parsed) { p.HasPath, p.Path = true, path })
		checkChange(t, path == "", func(p *impl.Parsed) { p.HasPath, p.Path = false, path })
	}
}

func TestP6AnyIntegerInAParsedHeader(t *testing.T) {
	for _, n := range []int{0, 1, -1, 2, 3, 4, 5, 6, 255, 256, 1 << 32, 1<<32 + 1, impl.MaxDecimal - 1, impl.MaxDecimal, impl.MaxDecimal + 1, -impl.MaxDecimal + 1, -impl.MaxDecimal, -impl.MaxDecimal - 1, firstSecond, firstSecond - 1, firstSecond + 1, lastSecond, lastSecond - 1, lastSecond + 1, 1 << 62, -1 << 62, math.MaxInt, math.MaxInt - 1, math.MinInt, math.MinInt + 1} {
		checkChange(t, n >= -1000000000000 && n <= 1000000000000, func(p *impl.Parsed) { p.HasAge, p.Age = true, n })
		checkChange(t, n == 0, func(p *impl.Parsed) { p.HasAge, p.Age = false, n })
		checkChange(t, n >= firstSecond && n <= lastSecond, func(p *impl.Parsed) { p.HasExpires, p.Expires = true, n })
		checkChange(t, n == 0, func(p *impl.Parsed) { p.HasExpires, p.Expires = false, n })
		checkChange(t, n >= 1 && n <= 4, func(p *impl.Parsed) { p.Site = n })
	}
}

func TestP1LongStringsInAParsedHeader(t *testing.T) {
	for _, length := range []int{impl.MaxText - 1, impl.MaxText, impl.MaxText + 1, 3 * impl.MaxText} {
		for _, c := range []string{"/", "x", " ", ";", "\x01", "."} {
			long := filled("/", c, length)
			for _, change := range []func(p *impl.Parsed){
				func(p *impl.Parsed) { p.Name = long },
				func(p *impl.Parsed) { p.Value = long },
				func(p *impl.Parsed) { p.Name, p.Value = long, long },
				func(p *impl.Parsed) { p.Domain = long },
				func(p *impl.Parsed) { p.Domain = "." + long },
				func(p *impl.Parsed) { p.HasPath, p.Path = true, long },
				func(p *impl.Parsed) { p.HasPath, p.Path = false, long },
			} {
				checkUnparsed(t, with(change))
			}
		}
	}
}

// randomParsed has fields that are valid more often than not.
func randomParsed(source *rand.Rand) impl.Parsed {
	pick := func(list ...string) string { return list[min(source.Intn(3*len(list)), source.Intn(len(list)))] }
	number := func(list ...int) int { return list[source.Intn(len(list))] }
	chance := func() bool { return source.Intn(2) == 0 }
	p := impl.Parsed{Name: pick("n", "", "a b", "\x80", "a=", " a"), Value: pick("v", "", "v=w", "\tv", "v;", filled("", "v", 100)), Site: number(1, 2, 3, 4, 4, 0, 5), Secure: chance(), HttpOnly: chance()}
	p.Domain = pick("", "x.y", ".x", "..", "X", filled(".", "d", 59), filled(".", "d", 60))
	if p.HasPath = chance(); p.HasPath != (source.Intn(20) == 0) {
		p.Path = pick("/", "/a b", filled("/", "p", 60), "", "a", "/\n")
	}
	if p.HasAge = chance(); p.HasAge != (source.Intn(20) == 0) {
		p.Age = number(0, 1, -3, 60, 1000000000000, 1000000000001)
	}
	if p.HasExpires = chance(); p.HasExpires != (source.Intn(20) == 0) {
		p.Expires = number(0, 5, -1, source.Intn(lastSecond), firstSecond+source.Intn(lastSecond), lastSecond+1)
	}
	return p
}

func TestP6ParsedHeadersAreRecovered(t *testing.T) {
	source := rand.New(rand.NewSource(7))
	valid := 0
	for range 60000 {
		p := randomParsed(source)
		checkParsed(t, p)
		if impl.ParsedOK(p) {
			valid++
		}
	}
	if valid < 1000 {
		t.Errorf("only %d of the parsed headers are valid", valid)
	}
}
