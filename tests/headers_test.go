package tests

import (
	"math/rand"
	"slices"
	"strings"
	"testing"

	"loop.example/g00803/impl"
)

// The tests compare ParseSet with parseByLast, which looks for the last attribute of each name that is not ignored.

type attribute struct{ name, value string }

func attributesOf(parts []string) []attribute {
	var list []attribute
	for _, part := range parts {
		name, value, _ := splitByBytes(part, '=')
		if value = trimByBytes(value); len(value) <= 60 {
			list = append(list, attribute{foldByBytes(trimByBytes(name)), value})
		}
	}
	return list
}

func lastOf(list []attribute, name string, counts func(value string) bool) (string, bool) {
	for _, a := range slices.Backward(list) {
		if a.name == name && counts(a.value) {
			return a.value, true
		}
	}
	return "", false
}

func anyValue(string) bool { return true }

func isDateByForms(value string) bool {
	_, code := readByForms(value)
	return code == 0
}

func isDecimalByBig(value string) bool {
	_, code := decimalByBig(value)
	return code == 0
}

func siteByWords(value string) int {
	return slices.Index([]string{"none", "lax", "strict"}, foldByBytes(value)) + 1
}

func pairByLast(part string) (string, string) {
	name, value, ok := splitByBytes(part, '=')
	if !ok {
		name, value = "", part
	}
	return trimByBytes(name), trimByBytes(value)
}

func attributesByLast(p impl.Parsed, list []attribute) impl.Parsed {
	if value, ok := lastOf(list, "expires", isDateByForms); ok {
		d, _ := readByForms(value)
		p.Expires, p.HasExpires = int(timeOfDate(d).Unix()), true
	}
	if value, ok := lastOf(list, "max-age", isDecimalByBig); ok {
		p.Age, _ = decimalByBig(value)
		p.HasAge = true
	}
	if value, ok := lastOf(list, "domain", anyValue); ok {
		p.Domain = trimByBytes(foldByBytes(strings.TrimPrefix(value, ".")))
	}
	if value, ok := lastOf(list, "path", anyValue); ok && value != "" && value[0] == '/' {
		p.Path, p.HasPath = value, true
	}
	if value, ok := lastOf(list, "samesite", anyValue); ok && siteByWords(value) > 0 {
		p.Site = siteByWords(value)
	}
	_, p.Secure = lastOf(list, "secure", anyValue)
	_, p.HttpOnly = lastOf(list, "httponly", anyValue)
	return p
}

func parseByLast(s string) (impl.Parsed, int) {
	if len(s) > 65536 {
		return impl.Parsed{}, impl.ErrLong
	}
	if controlByBytes(s) {
		return impl.Parsed{}, impl.ErrBad
	}
	parts := strings.Split(s, ";")
	name, value := pairByLast(parts[0])
	if name+value == "" {
		return impl.Parsed{}, impl.ErrNone
	}
	if len(name+value) > 100 {
		return impl.Parsed{}, impl.ErrSize
	}
	p := impl.Parsed{Name: name, Value: value, Site: 4}
	return attributesByLast(p, attributesOf(parts[1:])), 0
}

// checkHeader also recovers the parsed header from its text.
func checkHeader(t *testing.T, s string) {
	t.Helper()
	p, code := impl.ParseSet(s)
	if want, wantCode := parseByLast(s); p != want || code != wantCode {
		t.Errorf("ParseSet(%s) = %s, %d, want %s, %d", shown(s), shownParsed(p), code, shownParsed(want), wantCode)
	}
	if code == 0 {
		checkRecovered(t, p)
	}
}

type headerCase struct {
	t    string
	want impl.Parsed
}

func checkHeaders(t *testing.T, list []headerCase) {
	t.Helper()
	for _, v := range list {
		if got, code := impl.ParseSet(v.t); got != v.want || code != 0 {
			t.Errorf("ParseSet(%s) = %s, %d, want %s", shown(v.t), shownParsed(got), code, shownParsed(v.want))
		}
		checkHeader(t, v.t)
	}
}

// checkAttributes lays the attributes behind the pair `a=b`.
func checkAttributes(t *testing.T, list []headerCase) {
	t.Helper()
	for _, v := range list {
		v.t = "a=b;" + v.t
		v.want.Name, v.want.Value = "a", "b"
		if v.want.Site == 0 {
			v.want.Site = impl.SiteDefault
		}
		checkHeaders(t, []headerCase{v})
	}
}

func checkNoHeader(t *testing.T, code int, list ...string) {
	t.Helper()
	for _, s := range list {
		if got, gotCode := impl.ParseSet(s); got != (impl.Parsed{}) || gotCode != code {
			t.Errorf("ParseSet(%s) = %s, %d, want %d and nothing else", shown(s), shownParsed(got), gotCode, code)
		}
		checkHeader(t, s)
	}
}

func plain(name, value string) impl.Parsed {
	return impl.Parsed{Name: name, Value: value, Site: impl.SiteDefault}
}

func TestP1HeaderLimits(t *testing.T) {
	if impl.MaxPair != 100 || impl.MaxAttr != 60 {
		t.Error("limits of headers", impl.MaxPair, impl.MaxAttr)
	}
	if impl.SiteNone != 1 || impl.SiteLax != 2 || impl.SiteStrict != 3 || impl.SiteDefault != 4 {
		t.Error("sites", impl.SiteNone, impl.SiteLax, impl.SiteStrict, impl.SiteDefault)
	}
}

func TestP6PairCases(t *testing.T) {
	checkHeaders(t, []headerCase{
		{"a=b", plain("a", "b")},
		{"v", plain("", "v")}, {" v ", plain("", "v")}, {"\tv w\t", plain("", "v w")}, {"=v", plain("", "v")}, {" = v", plain("", "v")},
		{"a=", plain("a", "")}, {" a = ", plain("a", "")}, {"a=\t;", plain("a", "")},
		{"a=b=c", plain("a", "b=c")}, {"a==", plain("a", "=")}, {"==", plain("", "=")}, {"=a=b", plain("", "a=b")}, {"= =", plain("", "=")}, {"a = b = c ", plain("a", "b = c")},
		{" a = b ", plain("a", "b")}, {"\ta\t=\tb\t", plain("a", "b")}, {" \t a b \t = \t c d \t ", plain("a b", "c d")}, {"a\tb=c\td", plain("a\tb", "c\td")},
		{"A=B", plain("A", "B")}, {"secure", plain("", "secure")}, {"path=/", plain("path", "/")}, {"a=\"b\"", plain("a", "\"b\"")}, {"a,b=c,d", plain("a,b", "c,d")},
		{"\x80=\xff", plain("\x80", "\xff")}, {"\xe9", plain("", "\xe9")}, {"é = ü ", plain("é", "ü")}, {"a\xc3=\xa9b", plain("a\xc3", "\xa9b")}, {"\u00a0=\u2028", plain("\u00a0", "\u2028")}, {"\u0085a=\u3000", plain("\u0085a", "\u3000")},
		{"a=b;", plain("a", "b")}, {"a=b;;;", plain("a", "b")}, {"a=b; ;\t;", plain("a", "b")}, {"a=b;=;==;=x", plain("a", "b")}, {"a=b;c=d", plain("a", "b")}, {"a;=b", plain("", "a")},
	})
}

func TestP6HeadersWithControlCharacters(t *testing.T) {
	for a := range 256 {
		c := string([]byte{byte(a)})
		for _, s := range []string{c, "a" + c + "=b", "a=b" + c, c + "a=b", "a=b; x" + c, "a=b;" + c, "a=b; Path=/" + c + "x; Secure", strings.Repeat("v", 101) + c, "=" + c, ";" + c} {
			if a < 32 && a != 9 || a == 127 {
				checkNoHeader(t, impl.ErrBad, s)
			} else {
				checkHeader(t, s)
			}
		}
	}
	checkNoHeader(t, impl.ErrBad, "a=b\r\n", "a=b; Path=\x00", "\x7f", "a=b;x=\x1f", strings.Repeat("\n", impl.MaxText))
}

func TestP6EmptyPairs(t *testing.T) {
	checkNoHeader(t, impl.ErrNone, "", " ", "\t", ";", ";;", "=", " = ", "\t=\t", "=;", " ; a=b", ";a=b; Secure", "= ; Path=/x", strings.Repeat(" ", impl.MaxText), strings.Repeat(";", impl.MaxText))
	checkNoHeader(t, impl.ErrBad, "=\x01", ";\n", " \x7f")
}

func TestP6PairsOfMaxPairBytes(t *testing.T) {
	for _, size := range []int{0, 1, 50, 99, 100} {
		name, value := strings.Repeat("n", size), strings.Repeat("v", 100-size)
		checkHeaders(t, []headerCase{
			{name + "=" + value, plain(name, value)},
			{" " + name + "\t=  " + value + " ; x", plain(name, value)},
		})
		checkNoHeader(t, impl.ErrSize, name+"="+value+"v", "n"+name+"="+value, name+"="+value+"v; Secure")
	}
	v := strings.Repeat("v", 100)
	checkHeaders(t, []headerCase{{v, plain("", v)}, {"\t" + v + " ", plain("", v)}, {"=" + strings.Repeat("=", 100), plain("", strings.Repeat("=", 100))}})
	checkNoHeader(t, impl.ErrSize, v+"v", v+" v", strings.Repeat("é", 51), "="+strings.Repeat("=", 101), strings.Repeat("v", impl.MaxText))
	checkNoHeader(t, impl.ErrBad, v+"v\n", v+"v;\x00")
}

func TestP6AttributeNames(t *testing.T) {
	set := impl.Parsed{HasExpires: true, Expires: 5, HasAge: true, Age: 6, Domain: "d", HasPath: true, Path: "/7", Secure: true, HttpOnly: true, Site: impl.SiteLax}
	text := "expires=1 jan 1970 0:0:5;max-age=6;domain=d;path=/7;secure;httponly;samesite=lax"
	upper := "EXPIRES=1 JAN 1970 0:0:5;MAX-AGE=6;DOMAIN=D;PATH=/7;SECURE;HTTPONLY;SAMESITE=LAX"
	spaced := strings.NewReplacer("=", "\t = \t", ";", " ;\t ", "secure", "secure =", "httponly", "HttpOnly = ").Replace(text)
	checkAttributes(t, []headerCase{{text, set}, {" " + upper + " ", set}, {"\t" + spaced + "\t;", set}, {mixedCase(text), set}, {";; ;" + text + ";;x", set}})
	reversed := strings.Split(text, ";")
	slices.Reverse(reversed)
	checkAttributes(t, []headerCase{{strings.Join(reversed, ";"), set}})
	for _, name := range []string{"expires", "max-age", "domain", "path", "secure", "httponly", "samesite"} {
		for _, other := range []string{name + "s", name[1:], name[:len(name)-1], "x" + name, name + "\x80", name[:2] + " " + name[2:], "-" + name, name + ".", name + "\u00a0", strings.Replace(name, "s", "\u017f", 1) + "\u017f"} {
			checkAttributes(t, []headerCase{{other + "=/none", impl.Parsed{}}, {" " + strings.ToUpper(other) + " = 5", impl.Parsed{}}, {other, impl.Parsed{}}, {"=" + name, impl.Parsed{}}})
		}
	}
	checkAttributes(t, []headerCase{{"maxage=5;max age=5;max_age=5;http-only;same-site=lax;version=1;comment=x;doma\u0130n=x;exp\u0130res=1 jan 1970 0:0:5;sames\u0130te=lax;partitioned;priority=high;name=x;value=y;a=c", impl.Parsed{}}})
}

func TestP6AttributesWithSeveralEqualsSigns(t *testing.T) {
	checkAttributes(t, []headerCase{
		{"path=/=x=", impl.Parsed{HasPath: true, Path: "/=x="}}, {"path==/x", impl.Parsed{}}, {"domain==x", impl.Parsed{Domain: "=x"}}, {"domain=a=B", impl.Parsed{Domain: "a=b"}},
		{"max-age==5", impl.Parsed{}}, {"max-age=5=", impl.Parsed{}}, {"samesite==lax", impl.Parsed{}}, {"secure==", impl.Parsed{Secure: true}}, {"=secure=", impl.Parsed{}}, {"httponly=x=y", impl.Parsed{HttpOnly: true}},
		{"expires==1 jan 1970 0:0:5=", impl.Parsed{HasExpires: true, Expires: 5}},
	})
}

// filled is s with bytes of c behind it, up to the length.
func filled(s, c string, length int) string {
	return s + strings.Repeat(c, length-len(s))
}

func TestP6AttributeValuesOfMaxAttrBytes(t *testing.T) {
	date := filled("1 jan 1970 0:0:5", "x", 59)
	long := filled("/", "x", 60)
	domain := filled("", "d", 59)
	checkAttributes(t, []headerCase{
		{"path=" + long, impl.Parsed{HasPath: true, Path: long}}, {"path= \t" + long + "  ", impl.Parsed{HasPath: true, Path: long}}, {"path=" + long + "x", impl.Parsed{}},
		{"path=" + filled("", "x", 60), impl.Parsed{}}, {"path=/q;path=" + filled("", "x", 60), impl.Parsed{}}, {"path=/q;path=" + filled("", "x", 61), impl.Parsed{HasPath: true, Path: "/q"}}, {"path=/q;path=" + long + "x", impl.Parsed{HasPath: true, Path: "/q"}},
		{"domain=" + domain + "d", impl.Parsed{Domain: domain + "d"}}, {"domain=" + domain + "dd", impl.Parsed{}}, {"domain=." + domain, impl.Parsed{Domain: domain}}, {"domain=." + domain + "d", impl.Parsed{}}, {"domain=q;domain=." + domain + "d", impl.Parsed{Domain: "q"}},
		{"domain=.." + domain[1:], impl.Parsed{Domain: "." + domain[1:]}}, {"domain=.." + domain, impl.Parsed{}}, {"domain=q;domain=" + domain + "dd", impl.Parsed{Domain: "q"}}, {"domain=. \t" + domain[2:], impl.Parsed{Domain: domain[2:]}}, {"domain=. \t" + domain[1:], impl.Parsed{}},
		{"max-age=" + filled("", "0", 60), impl.Parsed{HasAge: true}}, {"max-age=" + filled("-", "9", 60), impl.Parsed{HasAge: true, Age: -1000000000000}}, {"max-age=" + filled("", "0", 61), impl.Parsed{}}, {"max-age=7;max-age=" + filled("", "1", 61), impl.Parsed{HasAge: true, Age: 7}},
		{"expires=" + date + "x", impl.Parsed{HasExpires: true, Expires: 5}}, {"expires=" + date + "xx", impl.Parsed{}}, {"expires=1 jan 1970 0:0:7;expires=" + date + "xx", impl.Parsed{HasExpires: true, Expires: 7}},
		{"secure=" + long, impl.Parsed{Secure: true}}, {"secure=" + long + "x", impl.Parsed{}}, {"secure;secure=" + long + "x", impl.Parsed{Secure: true}}, {"secure=\t" + long + "\t", impl.Parsed{Secure: true}},
		{"httponly=" + long, impl.Parsed{HttpOnly: true}}, {"httponly=" + long + "x", impl.Parsed{}}, {"httponly;httponly=" + long + "x", impl.Parsed{HttpOnly: true}},
		{"samesite=lax;samesite=" + long, impl.Parsed{}}, {"samesite=lax;samesite=" + long + "x", impl.Parsed{Site: impl.SiteLax}},
		{filled("", "x", 1000) + ";secure", impl.Parsed{Secure: true}}, {strings.Repeat(" ", 1000) + "path" + strings.Repeat("\t", 1000) + "=" + strings.Repeat(" ", 1000) + "/", impl.Parsed{HasPath: true, Path: "/"}},
	})
}

func TestP6ExpiresCases(t *testing.T) {
	five, seven := "1 jan 1970 0:0:5", "1 jan 1970 0:0:7"
	at := func(n int) impl.Parsed { return impl.Parsed{HasExpires: true, Expires: n} }
	checkAttributes(t, []headerCase{
		{"expires=Thu, 01 Jan 1970 00:00:05 GMT", at(5)}, {"Expires=Thu, 01-Jan-70 00:00:00 GMT", at(0)}, {"expires=Wed, 31 Dec 1969 23:59:59 GMT", at(-1)}, {"expires=\"" + five + "\"", at(5)},
		{"expires=Mon, 01 Jan 1601 00:00:00 GMT", at(firstSecond)}, {"expires=Fri, 31 Dec 9999 23:59:59 GMT", at(lastSecond)}, {"expires=31 dec 1600 23:59:59", impl.Parsed{}}, {"expires=1 jan 10000 0:0:0", impl.Parsed{}},
		{"expires", impl.Parsed{}}, {"expires=", impl.Parsed{}}, {"expires=never", impl.Parsed{}}, {"expires=0", impl.Parsed{}}, {"expires=5", impl.Parsed{}}, {"expires=31 feb 2000 1:1:1", impl.Parsed{}}, {"expires=1 jan 1970 24:0:0", impl.Parsed{}}, {"expires=1 jan 1970", impl.Parsed{}},
		{"expires=" + five + ";expires=" + seven, at(7)}, {"expires=" + seven + ";expires=" + five, at(5)}, {"expires=" + five + ";expires=never", at(5)}, {"expires=" + five + ";expires", at(5)}, {"expires=" + five + ";expires=", at(5)}, {"expires=" + five + ";EXPIRES=31 feb 2000 1:1:1;x", at(5)}, {"expires=never;expires=" + five, at(5)},
		{"expires=" + five + ";expires=1 jan 1970 0:0:0", at(0)}, {"expires=1 jan 1970 0;0:0", impl.Parsed{}},
	})
}

func TestP6MaxAgeCases(t *testing.T) {
	of := func(n int) impl.Parsed { return impl.Parsed{HasAge: true, Age: n} }
	checkAttributes(t, []headerCase{
		{"max-age=5", of(5)}, {"max-age=0", of(0)}, {"max-age=-0", of(0)}, {"max-age=-5", of(-5)}, {"max-age=-007", of(-7)}, {"max-age=0042", of(42)},
		{"max-age=1000000000000", of(1000000000000)}, {"max-age=1000000000001", of(1000000000000)}, {"max-age=-1000000000001", of(-1000000000000)}, {"max-age=99999999999999999999999999", of(1000000000000)}, {"max-age=-99999999999999999999999999", of(-1000000000000)},
		{"max-age", impl.Parsed{}}, {"max-age=", impl.Parsed{}}, {"max-age=x", impl.Parsed{}}, {"max-age=5x", impl.Parsed{}}, {"max-age=-", impl.Parsed{}}, {"max-age=--5", impl.Parsed{}}, {"max-age=+5", impl.Parsed{}}, {"max-age=5 5", impl.Parsed{}}, {"max-age=5.0", impl.Parsed{}}, {"max-age=1e3", impl.Parsed{}}, {"max-age=\"5\"", impl.Parsed{}}, {"max-age=\u0665", impl.Parsed{}}, {"max-age=- 5", impl.Parsed{}},
		{"max-age=5;max-age=6", of(6)}, {"max-age=6;max-age=5", of(5)}, {"max-age=5;max-age=0", of(0)}, {"max-age=5;max-age=x", of(5)}, {"max-age=5;max-age=", of(5)}, {"max-age=5;Max-Age", of(5)}, {"max-age=x;max-age=5", of(5)}, {"max-age=5;max-age=x;MAX-AGE=-007", of(-7)},
	})
}

func TestP6DomainCases(t *testing.T) {
	of := func(domain string) impl.Parsed { return impl.Parsed{Domain: domain} }
	checkAttributes(t, []headerCase{
		{"domain=a.example", of("a.example")}, {"domain=.a.example", of("a.example")}, {"domain=..a", of(".a")}, {"domain=...a", of("..a")}, {"domain=a.", of("a.")}, {"domain=.a.", of("a.")}, {"domain=A.EXAMPLE", of("a.example")}, {"domain=.A.Z@[`", of("a.z@[`")},
		{"domain", of("")}, {"domain=", of("")}, {"domain= ", of("")}, {"domain=.", of("")}, {"domain= . ", of("")}, {"domain=..", of(".")}, {"domain=...", of("..")},
		{"domain=. a", of("a")}, {"domain=.\tA \t", of("a")}, {"domain=. ", of("")}, {"domain=. .a", of(".a")}, {"domain=.. a", of(". a")}, {"domain= .a", of("a")}, {"domain=a b", of("a b")}, {"domain=*!/", of("*!/")}, {"domain=ÀÉ\xc0", of("ÀÉ\xc0")}, {"domain=\u212a", of("\u212a")},
		{"domain=a;domain=b", of("b")}, {"domain=a;domain=", of("")}, {"domain=a;domain", of("")}, {"domain=a;domain=.", of("")}, {"domain=;domain=a", of("a")}, {"domain=a;DOMAIN=.B;x", of("b")},
	})
}

func TestP6PathCases(t *testing.T) {
	of := func(path string) impl.Parsed { return impl.Parsed{HasPath: true, Path: path} }
	checkAttributes(t, []headerCase{
		{"path=/", of("/")}, {"path=/a/b", of("/a/b")}, {"path= /a b ", of("/a b")}, {"path=//", of("//")}, {"path=/A", of("/A")}, {"path=/\x80\tx", of("/\x80\tx")}, {"path=/%2f?q#f", of("/%2f?q#f")},
		{"path", impl.Parsed{}}, {"path=", impl.Parsed{}}, {"path=a", impl.Parsed{}}, {"path=a/", impl.Parsed{}}, {"path=./", impl.Parsed{}}, {"path=\"/\"", impl.Parsed{}},
		{"path=/a;path=/b", of("/b")}, {"path=/a;path=b", impl.Parsed{}}, {"path=/a;path=", impl.Parsed{}}, {"path=/a;path", impl.Parsed{}}, {"path=b;path=/a", of("/a")}, {"path=/a;path=b;PATH=/c", of("/c")}, {"path=/a;Path=;x", impl.Parsed{}},
	})
}

func TestP6FlagCases(t *testing.T) {
	checkAttributes(t, []headerCase{
		{"secure", impl.Parsed{Secure: true}}, {"secure=", impl.Parsed{Secure: true}}, {"secure=no", impl.Parsed{Secure: true}}, {"Secure=false;x", impl.Parsed{Secure: true}}, {"secure;secure=0", impl.Parsed{Secure: true}}, {" SECURE ", impl.Parsed{Secure: true}},
		{"httponly", impl.Parsed{HttpOnly: true}}, {"httponly=", impl.Parsed{HttpOnly: true}}, {"HttpOnly=no", impl.Parsed{HttpOnly: true}}, {"httponly=0;httponly", impl.Parsed{HttpOnly: true}}, {"\tHTTPONLY\t;", impl.Parsed{HttpOnly: true}},
		{"secure httponly", impl.Parsed{}}, {"secure,httponly", impl.Parsed{}}, {"httponly;secure", impl.Parsed{Secure: true, HttpOnly: true}},
	})
}

func TestP6SameSiteCases(t *testing.T) {
	for word, site := range map[string]int{"none": 1, "NONE": 1, "Lax": 2, "laX": 2, "Strict": 3, "sTRICT": 3, "": 4, "default": 4, "x": 4, "no": 4, "nonee": 4, "lax lax": 4, "la\u017f": 4, "\u017ftrict": 4, "str\u0130ct": 4, "-": 4, "1": 4} {
		checkAttributes(t, []headerCase{
			{"samesite=" + word, impl.Parsed{Site: site}}, {"SameSite =\t" + word + " ;", impl.Parsed{Site: site}},
			{"samesite=strict;samesite=" + word, impl.Parsed{Site: site}}, {"samesite=" + word + ";samesite=lax", impl.Parsed{Site: 2}}, {"samesite=" + word + ";samesite", impl.Parsed{}},
		})
	}
	checkAttributes(t, []headerCase{{"samesite", impl.Parsed{}}})
}

// randomHeaders joins parts of headers, most of which have a pair and several attributes.
func randomHeaders(count int) []string {
	source := rand.New(rand.NewSource(6))
	names := []string{"expires", "max-age", "domain", "path", "path", "secure", "httponly", "samesite", "Expires", "MAX-AGE", "DoMain", "x", "", "secur", "\x80"}
	values := []string{"1 jan 1970 0:0:5", "Thu, 01-Jan-70 00:00:09 GMT", "31 feb 2000 1:1:1", "5", "-7", "1000000000001", "a.example", ".B", "..c", ". d", "/", "/x y", "//", "z", "none", "Lax", "STRICT", "", "=", "\xff", filled("/", "y", 60), filled("/", "y", 61), filled("5", "5", 60), filled("..", "E", 60), filled(".", "E", 61)}
	pairs := []string{"a=b", "v", " a = b ", "=c", "n=", "a==b", "\x80=\xff", "=", "", filled("n=", "v", 101), filled("n=", "v", 102)}
	gaps := []string{"", "", "", " ", "\t", "  ", "\n"}
	pick := func(list []string) string { return list[source.Intn(len(list))] }
	gap := func() string { return gaps[min(source.Intn(20), source.Intn(len(gaps)))] }
	var list []string
	for range count {
		text := pick(pairs)
		for range source.Intn(9) {
			text += ";" + gap() + pick(names)
			if source.Intn(8) > 0 {
				text += gap() + "=" + gap() + pick(values)
			}
			text += gap()
		}
		list = append(list, text)
	}
	return list
}

func TestP6HeadersAgainstAttributes(t *testing.T) {
	parsed := 0
	for _, s := range slices.Concat(manyStrings(), wordsOver("a=; \tP\x80", 5), randomHeaders(60000)) {
		checkHeader(t, s)
		if _, code := impl.ParseSet(s); code == 0 {
			parsed++
		}
	}
	if parsed < 50000 {
		t.Errorf("only %d of the headers are parsed", parsed)
	}
}

// Any byte before, behind or in place of a byte of a header.
func TestP6EveryByteInAHeader(t *testing.T) {
	for _, text := range []string{"a=b; Expires=1 jan 1970 0:0:5; Max-Age=-5; Domain=.A; Path=/p; Secure; HttpOnly; SameSite=Lax", "a;path=/;path=q;max-age=1;max-age=x"} {
		for i := range len(text) + 1 {
			for a := range 256 {
				c := string([]byte{byte(a)})
				checkHeader(t, text[:i]+c+text[i:])
				if i < len(text) {
					checkHeader(t, text[:i]+c+text[i+1:])
				}
			}
		}
	}
}

// longHeaders holds headers of a length, with their attributes at the ends.
func longHeaders(length int) []string {
	var list []string
	for _, c := range []string{" ", ";", "=", "x", "\x80", ";\t", "; =", ";path=/q"} {
		gap := strings.Repeat(c, length/len(c))
		list = append(list, filled("a=b; secure"+gap[:length-30]+"; path=/p", " ", length), filled("a=b;"+gap[:length-30]+"=; httponly", ";", length), filled(gap, " ", length))
	}
	return append(list, filled("", "\x01", length), filled("a=b;secure=", "x", length))
}

func TestP6HeadersOfMaxTextBytes(t *testing.T) {
	flags := 0
	for _, s := range longHeaders(impl.MaxText) {
		checkHeader(t, s)
		if p, code := impl.ParseSet(s); len(s) != impl.MaxText || code == impl.ErrLong {
			t.Errorf("ParseSet(%s) = %s, %d", shown(s), shownParsed(p), code)
		} else if p.Secure || p.HttpOnly {
			flags++
		}
	}
	if flags < 12 {
		t.Errorf("%d headers set a flag", flags)
	}
}

func TestP1HeadersOfMoreThanMaxTextBytes(t *testing.T) {
	checkNoHeader(t, impl.ErrLong, append(longHeaders(impl.MaxText+1), longHeaders(2*impl.MaxText)...)...)
	checkNoHeader(t, impl.ErrLong, filled("", "\x00", impl.MaxText+1), filled("a=b", " ", impl.MaxText+1), filled("", "v", impl.MaxText+1))
}
