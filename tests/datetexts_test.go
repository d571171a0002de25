package tests

import (
	"math/rand"
	"regexp"
	"slices"
	"strconv"
	"strings"
	"testing"

	"loop.example/g00803/impl"
)

func delimits(c byte) bool {
	return c == 9 || c >= 32 && c <= 47 || c >= 59 && c <= 64 || c >= 91 && c <= 96 || c >= 123 && c <= 126
}

func tokensByBytes(t string) []string {
	var list []string
	inside := false
	for i := 0; i < len(t); i++ {
		if delimits(t[i]) {
			inside = false
			continue
		}
		if !inside {
			list = append(list, "")
			inside = true
		}
		list[len(list)-1] += t[i : i+1]
	}
	return list
}

func checkTokens(t *testing.T, s string) {
	t.Helper()
	want := tokensByBytes(s)
	if got, code := impl.DateTokens(s); code != 0 || !slices.Equal(got, want) {
		t.Errorf("DateTokens(%s) = %q, %d, want %q", shown(s), got, code, want)
	}
}

var partForms = [...]*regexp.Regexp{
	regexp.MustCompile(`^([0-9][0-9]?):([0-9][0-9]?):([0-9][0-9]?)([^0-9]|$)`),
	regexp.MustCompile(`^([0-9][0-9]?)([^0-9]|$)`),
	regexp.MustCompile(`^([Jj][Aa][Nn]|[Ff][Ee][Bb]|[Mm][Aa][Rr]|[Aa][Pp][Rr]|[Mm][Aa][Yy]|[Jj][Uu][Nn]|[Jj][Uu][Ll]|[Aa][Uu][Gg]|[Ss][Ee][Pp]|[Oo][Cc][Tt]|[Nn][Oo][Vv]|[Dd][Ee][Cc])`),
	regexp.MustCompile(`^([0-9]{2,4})([^0-9]|$)`),
}

func number(t string) int {
	n, err := strconv.Atoi(t)
	if err != nil {
		panic(err)
	}
	return n
}

func yearByDigits(t string) int {
	n := number(t)
	if n <= 69 {
		return n + 2000
	}
	if n <= 99 {
		return n + 1900
	}
	return n
}

// readByForms keeps the first match of each form and then builds the date.
func readByForms(t string) (impl.Date, int) {
	var found [len(partForms)][]string
	for _, token := range tokensByBytes(t) {
		for i, form := range partForms {
			if m := form.FindStringSubmatch(token); m != nil && found[i] == nil {
				found[i] = m
				break
			}
		}
	}
	for _, m := range found {
		if m == nil {
			return impl.Date{}, impl.ErrDate
		}
	}
	month := strings.Index("janfebmaraprmayjunjulaugsepoctnovdec", strings.ToLower(found[2][1]))/3 + 1
	clock := found[0]
	d := dateFrom(yearByDigits(found[3][1]), month, number(found[1][1]), number(clock[1]), number(clock[2]), number(clock[3]))
	if !validByTime(d) {
		return impl.Date{}, impl.ErrDate
	}
	return d, 0
}

func checkRead(t *testing.T, s string) {
	t.Helper()
	got, code := impl.ReadDate(s)
	if want, wantCode := readByForms(s); got != want || code != wantCode {
		t.Errorf("ReadDate(%s) = %v, %d, want %v, %d", shown(s), got, code, want, wantCode)
	}
}

type dateCase struct {
	t    string
	want impl.Date
}

func checkReadCases(t *testing.T, list []dateCase) {
	t.Helper()
	for _, v := range list {
		if got, code := impl.ReadDate(v.t); got != v.want || code != 0 {
			t.Errorf("ReadDate(%s) = %v, %d, want %v", shown(v.t), got, code, v.want)
		}
		checkRead(t, v.t)
	}
}

func checkNoDate(t *testing.T, list ...string) {
	t.Helper()
	for _, s := range list {
		if got, code := impl.ReadDate(s); got != (impl.Date{}) || code != impl.ErrDate {
			t.Errorf("ReadDate(%s) = %v, %d, want ErrDate", shown(s), got, code)
		}
		checkRead(t, s)
	}
}

func TestP5EveryByteInTokens(t *testing.T) {
	for a := range 256 {
		c := string([]byte{byte(a)})
		want := []string{"x" + c + "y"}
		if a == 9 || a >= 32 && a <= 47 || a >= 59 && a <= 64 || a >= 91 && a <= 96 || a >= 123 && a <= 126 {
			want = []string{"x", "y"}
		}
		if got, code := impl.DateTokens("x" + c + "y"); code != 0 || !slices.Equal(got, want) {
			t.Errorf("DateTokens of x, the byte %d and y is %q, %d, want %q", a, got, code, want)
		}
	}
}

func TestP5TokenCases(t *testing.T) {
	for _, v := range []struct {
		t    string
		want []string
	}{
		{"", nil}, {" ", nil}, {"\t ,-/;@[`{~", nil}, {"a", []string{"a"}}, {" a ", []string{"a"}}, {"a  b", []string{"a", "b"}}, {"a,;b", []string{"a", "b"}},
		{"Thu, 01-Jan/70\t(1:2:3) [x]{y}~\x80@_z", []string{"Thu", "01", "Jan", "70", "1:2:3", "x", "y", "\x80", "z"}},
		{"1:2:3", []string{"1:2:3"}}, {":", []string{":"}}, {"9:;A", []string{"9:", "A"}}, {"@AZ[", []string{"AZ"}}, {"`az{", []string{"az"}}, {"/09:", []string{"09:"}},
		{"\x00", []string{"\x00"}}, {"a\nb\rc\vd\fe", []string{"a\nb\rc\vd\fe"}}, {"\x08\t\n", []string{"\x08", "\n"}}, {"\x1f \x1f", []string{"\x1f", "\x1f"}}, {"~\x7f}", []string{"\x7f"}},
		{"\x80\xff", []string{"\x80\xff"}}, {"\xc3 \xa9", []string{"\xc3", "\xa9"}}, {"\xe2-\x80-\xa8", []string{"\xe2", "\x80", "\xa8"}}, {"é \u00a0\u2028 ü", []string{"é", "\u00a0\u2028", "ü"}},
		{"a a a", []string{"a", "a", "a"}},
	} {
		if got, code := impl.DateTokens(v.t); code != 0 || !slices.Equal(got, v.want) {
			t.Errorf("DateTokens(%s) = %q, %d, want %q", shown(v.t), got, code, v.want)
		}
	}
}

func TestP5TokensAgainstBytes(t *testing.T) {
	for _, s := range slices.Concat(manyStrings(), wordsOver("/0:;@A\x80\t", 5), randomDates(2000)) {
		checkTokens(t, s)
	}
}

func TestP5ReadDateCases(t *testing.T) {
	checkReadCases(t, []dateCase{
		{"Thu, 01 Jan 1970 00:00:00 GMT", dateFrom(1970, 1, 1, 0, 0, 0)},
		{"Sunday, 06-Nov-94 08:49:37 GMT", dateFrom(1994, 11, 6, 8, 49, 37)},
		{"Sun Nov  6 08:49:37 1994", dateFrom(1994, 11, 6, 8, 49, 37)},
		{"1 jan 70 0:0:0", dateFrom(1970, 1, 1, 0, 0, 0)},
		{"00:00:00 01 jan 1601", dateFrom(1601, 1, 1, 0, 0, 0)},
		{"23:59:59/31/dec/9999", dateFrom(9999, 12, 31, 23, 59, 59)},
		{"29 feb 2000 1:1:1", dateFrom(2000, 2, 29, 1, 1, 1)},
		{"~~x 8 y jun 2010 z 1:1:1~~", dateFrom(2010, 6, 8, 1, 1, 1)},
		{"feb\t3{2003}4:05:6", dateFrom(2003, 2, 3, 4, 5, 6)},
		{"\x80 3 \xff apr \xc3\xa9 2003 \x00 1:1:1 \x7f", dateFrom(2003, 4, 3, 1, 1, 1)},
	})
	checkNoDate(t, "", " ", "x", ":", "::", "\x80", "Thu", "GMT", "0", "jan", "2000", "1:1:1", "1 2 3 4", "jan feb mar apr", "01.01.1970 00:00:00", "1970-01-01T00:00:00Z", "one jan 2000 1:1:1")
}

func TestP5TimeTokens(t *testing.T) {
	want := dateFrom(2000, 5, 7, 1, 2, 3)
	for _, clock := range []string{"1:2:3", "01:02:03", "01:2:03", "1:02:3", "1:2:03", "1:2:3x", "01:02:03x9", "1:2:3:4", "1:2:3:", "01:02:03:04:05", "1:2:3\x80", "1:2:3\n4", "1:2:3Z", "1:2:3jan"} {
		checkReadCases(t, []dateCase{{"7 may 2000 " + clock, want}, {clock + " 7 may 2000", want}})
	}
	for _, clock := range []string{"1:2:345", "1:2:003", "1:002:3", "001:2:3", "111:2:3", "1:222:3", "1:2", "1:2:", "1::3", ":1:2:3", "::", ":", "1:2:x", "1:x:3", "x1:2:3", "x:2:3", "1:2x:3", "1x:2:3", "1;2:3", "1.2.3", "1:2\n:3", "1:\x802:3", "\xff1:2:3", "1:-2:3"} {
		checkNoDate(t, "7 may 2000 "+clock)
	}
	checkNoDate(t, "7 may 2000 24:0:0", "7 may 2000 0:60:0", "7 may 2000 0:0:60", "7 may 2000 99:99:99")
	checkReadCases(t, []dateCase{{"7 may 2000 23:59:59", dateFrom(2000, 5, 7, 23, 59, 59)}, {"7 may 2000 0:0:0", dateFrom(2000, 5, 7, 0, 0, 0)}})
}

func TestP5DayTokens(t *testing.T) {
	want := dateFrom(2000, 5, 7, 1, 2, 3)
	for _, day := range []string{"7", "07", "7th", "07x", "7x99", "7:", "07:99", "7:8", "7may", "7\x80", "7\x00", "7\n7"} {
		checkReadCases(t, []dateCase{{day + " may 2000 1:2:3", want}, {"1:2:3 " + day + " may 2000", want}, {"may 2000 1:2:3 " + day, want}})
	}
	for _, day := range []string{"x7", "th7", ":7", "\x807", "\n7", "12345", "00007", "seven"} {
		checkNoDate(t, day+" may 2000 1:2:3")
	}
	for _, day := range []string{"0", "00", "32", "99"} {
		checkNoDate(t, day+" may 2000 1:2:3", "may 2000 "+day+" 1:2:3")
	}
	checkReadCases(t, []dateCase{
		{"31 may 2000 1:2:3", dateFrom(2000, 5, 31, 1, 2, 3)},
		{"1:2:3 may 2000 1", dateFrom(2000, 5, 1, 1, 2, 3)},
	})
	// A number of three digits is no day, but a year.
	checkNoDate(t, "007 may 2000 1:2:3", "111 may 2000 1:2:3", "may 2000 1:2:3 007", "may 2000 1:2:3 111")
	checkReadCases(t, []dateCase{{"may 007 7 1:2:3", dateFrom(2007, 5, 7, 1, 2, 3)}})
}

func TestP5MonthTokens(t *testing.T) {
	for i, name := range []string{"jan", "feb", "mar", "apr", "may", "jun", "jul", "aug", "sep", "oct", "nov", "dec"} {
		want := dateFrom(2000, i+1, 7, 1, 2, 3)
		for _, month := range []string{name, strings.ToUpper(name), strings.ToUpper(name[:1]) + name[1:], name[:2] + strings.ToUpper(name[2:]), mixedCase(name), name + "uary", name + "7", name + ":", name + name, name + "\x80", strings.ToUpper(name) + "\n"} {
			checkReadCases(t, []dateCase{{"7 " + month + " 2000 1:2:3", want}})
		}
		for _, month := range []string{name[:2], name[:1], name[1:], "x" + name, ":" + name, "\x80" + name, "\n" + name, name[:2] + "." + name[2:], name[:2] + "x", name[:2] + "\xff", name[:1] + "x" + name[2:], "x" + name[1:]} {
			checkNoDate(t, "7 "+month+" 2000 1:2:3")
		}
	}
	checkNoDate(t, "7 \u017fep 2000 1:2:3", "7 1 2000 1:2:3", "7 13 2000 1:2:3", "7 mai 2000 1:2:3", "7 Okt 2000 1:2:3", "7 m\u00e4r 2000 1:2:3")
}

func TestP5YearTokens(t *testing.T) {
	for _, v := range []struct {
		year string
		want int
	}{
		{"00", 2000}, {"01", 2001}, {"09", 2009}, {"10", 2010}, {"68", 2068}, {"69", 2069}, {"70", 1970}, {"71", 1971}, {"98", 1998}, {"99", 1999},
		{"000", 2000}, {"0000", 2000}, {"007", 2007}, {"0007", 2007}, {"069", 2069}, {"0069", 2069}, {"070", 1970}, {"0070", 1970}, {"099", 1999}, {"0099", 1999},
		{"1601", 1601}, {"1700", 1700}, {"1969", 1969}, {"1970", 1970}, {"2069", 2069}, {"9999", 9999},
		{"99AD", 1999}, {"1999AD", 1999}, {"070x9", 1970}, {"1999:", 1999}, {"70:70", 1970}, {"2000\x80", 2000}, {"2000\n1", 2000}, {"12:13", 2012},
	} {
		checkReadCases(t, []dateCase{
			{"7 may " + v.year + " 1:2:3", dateFrom(v.want, 5, 7, 1, 2, 3)},
			{"1:2:3 may 7 " + v.year, dateFrom(v.want, 5, 7, 1, 2, 3)},
		})
	}
	for _, year := range []string{"7", "0", "9", "7x", "12345", "00070", "01999", "10000", "19999", "x1999", ":1999", "\x801999", "AD99", "100", "0100", "101", "700", "999", "1000", "1599", "1600"} {
		checkNoDate(t, "7 may "+year+" 1:2:3")
	}
}

func TestP5TheFirstMissingPartTakesAToken(t *testing.T) {
	checkReadCases(t, []dateCase{
		{"12 13 may 1:2:3", dateFrom(2013, 5, 12, 1, 2, 3)},
		{"7 70 may 1:2:3", dateFrom(1970, 5, 7, 1, 2, 3)},
		{"1:2:3 4:5:6 may 2000", dateFrom(2000, 5, 4, 1, 2, 3)},
		{"1:2:3 4:5:6 07:8:9 may", dateFrom(2007, 5, 4, 1, 2, 3)},
		{"1:2:3 4:5:6 7:8:9 may 10", dateFrom(2010, 5, 4, 1, 2, 3)},
		{"1:2:3 4 70:8:9 may", dateFrom(1970, 5, 4, 1, 2, 3)},
		{"10:10 1:2:3 may 2000", dateFrom(2000, 5, 10, 1, 2, 3)},
		{"5 2001 10:10 10:10:10 dec", dateFrom(2001, 12, 5, 10, 10, 10)},
		{"7 8 may 2000 1:2:3", dateFrom(2000, 5, 7, 1, 2, 3)},
		{"7 may 8 2000 1:2:3", dateFrom(2000, 5, 7, 1, 2, 3)},
		{"7 may 08 2000 1:2:3", dateFrom(2008, 5, 7, 1, 2, 3)},
		{"2000 07 may 99 1:2:3", dateFrom(2000, 5, 7, 1, 2, 3)},
		{"jan feb 3 1999 4:5:6", dateFrom(1999, 1, 3, 4, 5, 6)},
		{"3 nov 1994 8:49:37 4:4:4 24:60:60 32 dec 1500", dateFrom(1994, 11, 3, 8, 49, 37)},
		{"01 02 1:1:1 marmar 1700", dateFrom(2002, 3, 1, 1, 1, 1)},
		{"1999 7 may 2000 1:2:3", dateFrom(1999, 5, 7, 1, 2, 3)},
	})
	// The first match of a part stays, even if the date is not valid with it.
	checkNoDate(t, "70 1:2:3 7 may 1999 8", "24:0:0 1:2:3 7 may 2000", "32 7 may 2000 1:2:3", "0 7 may 2000 1:2:3", "7 may 1600 2000 1:2:3", "7 may 100 2000 1:2:3", "1:2:3 99 jan 7", "feb jan 30 2000 1:2:3")
}

func TestP5AMissingPart(t *testing.T) {
	parts := []string{"1:2:3", "7", "may", "2000"}
	for i := range parts {
		rest := slices.Delete(slices.Clone(parts), i, i+1)
		checkNoDate(t, strings.Join(rest, " "), strings.Join(rest, " ")+" x", parts[i], strings.Repeat(parts[i]+" ", 2))
		for j := range rest {
			checkNoDate(t, strings.Join(slices.Delete(slices.Clone(rest), j, j+1), " "))
		}
	}
	checkNoDate(t, "1:2:3 may 2000 2000", "may may 7 2000", "1:2:3 7 7 2000", "1:2:3 7 may 7")
}

func TestP5CompleteButNotValid(t *testing.T) {
	checkNoDate(t, "31 feb 2000 10:10:10", "30 feb 2000 1:1:1", "29 feb 1900 1:1:1", "29 feb 2001 1:1:1", "29 feb 2100 1:1:1", "31 apr 2000 1:1:1", "31 jun 2000 1:1:1", "31 sep 2000 1:1:1", "31 nov 2000 1:1:1", "0 jan 2000 1:1:1", "32 jan 2000 1:1:1",
		"1 jan 1600 1:1:1", "1 jan 1000 1:1:1", "31 dec 1600 23:59:59", "1 jan 2000 24:0:0", "1 jan 2000 1:60:0", "1 jan 2000 1:0:60")
	checkReadCases(t, []dateCase{
		{"29 feb 2000 1:1:1", dateFrom(2000, 2, 29, 1, 1, 1)}, {"29 feb 1904 1:1:1", dateFrom(1904, 2, 29, 1, 1, 1)}, {"29 feb 04 1:1:1", dateFrom(2004, 2, 29, 1, 1, 1)},
		{"30 apr 2000 1:1:1", dateFrom(2000, 4, 30, 1, 1, 1)}, {"31 jan 2000 1:1:1", dateFrom(2000, 1, 31, 1, 1, 1)},
	})
}

// randomDates joins parts and near parts of dates, in any order.
func randomDates(count int) []string {
	source := rand.New(rand.NewSource(4))
	numbers := []string{"0", "1", "7", "07", "29", "30", "31", "32", "69", "70", "99", "007", "100", "0070", "1600", "1601", "1900", "2000", "9999", "12345"}
	words := []string{"jan", "Feb", "MAR", "april", "jUn", "ju", "decx", "x", "GMT", "Mon", "\x80", "xmay"}
	clocks := []string{"1:2:3", "23:59:59", "24:0:0", "0:60:0", "01:02:03x", "1:2:345", "1:2", "1:2:", "9:9:9:9", "70:1:1", "5th", "12:x", "1999AD"}
	gaps := []string{" ", " ", "-", "/", ", ", "\t", ";", "", "\n", "x"}
	var list []string
	for range count {
		var b strings.Builder
		for range source.Intn(9) {
			kind := [][]string{numbers, numbers, words, clocks}[source.Intn(4)]
			b.WriteString(kind[source.Intn(len(kind))])
			b.WriteString(gaps[source.Intn(len(gaps))])
		}
		list = append(list, b.String())
	}
	return list
}

// nearDates shuffles the parts of texts that are dates or lack little to be one.
func nearDates(count int) []string {
	source := rand.New(rand.NewSource(5))
	var list []string
	for _, s := range randomDates(count) {
		parts := append(strings.Fields(s), "1:2:3", "7", "may", "2000")
		source.Shuffle(len(parts), func(i, j int) { parts[i], parts[j] = parts[j], parts[i] })
		list = append(list, strings.Join(parts, " "), strings.Join(parts[1:], "-"))
	}
	return list
}

func TestP5ReadDateAgainstForms(t *testing.T) {
	dates := 0
	for _, s := range slices.Concat(manyStrings(), randomDates(20000), nearDates(10000)) {
		checkRead(t, s)
		if _, code := impl.ReadDate(s); code == 0 {
			dates++
		}
	}
	if dates < 1000 {
		t.Errorf("only %d of the texts are dates", dates)
	}
}

// Any byte before, behind or in place of a byte of a date.
func TestP5EveryByteInADate(t *testing.T) {
	for _, text := range []string{"Tue, 29 Feb 2000 12:34:56 GMT", "1 mar 99 1:2:3"} {
		for i := range len(text) + 1 {
			for a := range 256 {
				c := string([]byte{byte(a)})
				checkRead(t, text[:i]+c+text[i:])
				if i < len(text) {
					checkRead(t, text[:i]+c+text[i+1:])
				}
			}
		}
	}
}

// longDates holds a date at the ends of many bytes.
func longDates(length int) []string {
	date := "7 may 2000 1:2:3"
	var list []string
	for _, c := range []string{" ", "x", "7", ":", "\x80", "j"} {
		gap := strings.Repeat(c, length-len(date)-1)
		list = append(list, date+" "+gap, gap+" "+date, strings.Repeat(c, length))
	}
	return append(list, strings.Repeat("7 ", length/2)+strings.Repeat(" ", length%2), "1:2:3 may 2000 7"+strings.Repeat("x", length-16))
}

func TestP5DateTextsOfMaxTextBytes(t *testing.T) {
	dates := 0
	for _, s := range longDates(impl.MaxText) {
		want := strings.FieldsFunc(s, func(r rune) bool { return r == ' ' })
		if got, code := impl.DateTokens(s); len(s) != impl.MaxText || code != 0 || !slices.Equal(got, want) {
			t.Errorf("DateTokens(%s) = %d tokens, %d, want %d tokens", shown(s), len(got), code, len(want))
		}
		got, code := impl.ReadDate(s)
		if code == 0 && got == dateFrom(2000, 5, 7, 1, 2, 3) {
			dates++
		} else if code != impl.ErrDate || got != (impl.Date{}) {
			t.Errorf("ReadDate(%s) = %v, %d", shown(s), got, code)
		}
	}
	if dates != 13 {
		t.Errorf("%d texts are dates, want 13", dates)
	}
}

func TestP1DateTextsOfMoreThanMaxTextBytes(t *testing.T) {
	for _, s := range append(longDates(impl.MaxText+1), longDates(2*impl.MaxText)...) {
		if got, code := impl.DateTokens(s); len(got) != 0 || code != impl.ErrLong {
			t.Errorf("DateTokens(%s) = %d tokens, %d, want ErrLong", shown(s), len(got), code)
		}
		if got, code := impl.ReadDate(s); got != (impl.Date{}) || code != impl.ErrLong {
			t.Errorf("ReadDate(%s) = %v, %d, want ErrLong", shown(s), got, code)
		}
	}
}
