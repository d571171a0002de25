package tests

import (
	"math/rand"
	"slices"
	"strconv"
	"strings"
	"testing"

	"loop.example/g00803/impl"
)

func shownCookies(list []impl.Cookie) string {
	if len(list) > 20 {
		return strconv.Itoa(len(list)) + " cookies"
	}
	var parts []string
	for _, c := range list {
		parts = append(parts, shownCookie(c))
	}
	return "{" + strings.Join(parts, " ") + "}"
}

// sortByInsertion puts each cookie behind the last one that it does not precede.
func sortByInsertion(list []impl.Cookie) []impl.Cookie {
	var sorted []impl.Cookie
	for _, c := range list {
		place := len(sorted)
		for place > 0 && slices.Compare(sendingRanks(c), sendingRanks(sorted[place-1])) < 0 {
			place--
		}
		sorted = slices.Insert(sorted, place, c)
	}
	return sorted
}

func headerByFields(list []impl.Cookie) string {
	header := ""
	for _, c := range list {
		if c.Name != "" {
			header += c.Name + "="
		}
		header += c.Value + "; "
	}
	return strings.TrimSuffix(header, "; ")
}

func codeByFields(list []impl.Cookie) int {
	if len(list) > 4096 {
		return impl.ErrLong
	}
	for _, c := range list {
		if !cookieByFields(c) {
			return impl.ErrBad
		}
	}
	return 0
}

// checkCookies also makes sure that the list is unchanged.
func checkCookies(t *testing.T, list []impl.Cookie) {
	t.Helper()
	given := slices.Clone(list)
	sorted, code := impl.SortCookies(given)
	header, headerCode := impl.HeaderOf(given)
	if !slices.Equal(given, list) {
		t.Errorf("the list %s became %s", shownCookies(list), shownCookies(given))
	}
	var wantSorted []impl.Cookie
	wantHeader, want := "", codeByFields(list)
	if want == 0 {
		wantSorted, wantHeader = sortByInsertion(list), headerByFields(list)
	}
	if !slices.Equal(sorted, wantSorted) || code != want {
		t.Errorf("SortCookies(%s) = %s, %d, want %s, %d", shownCookies(list), shownCookies(sorted), code, shownCookies(wantSorted), want)
	}
	if header != wantHeader || headerCode != want {
		t.Errorf("HeaderOf(%s) = %s, %d, want %s, %d", shownCookies(list), shown(header), headerCode, shown(wantHeader), want)
	}
}

func checkFailingCookies(t *testing.T, list []impl.Cookie, want int) {
	t.Helper()
	if sorted, code := impl.SortCookies(list); len(sorted) != 0 || code != want {
		t.Errorf("SortCookies(%s) = %s, %d, want %d", shownCookies(list), shownCookies(sorted), code, want)
	}
	if header, code := impl.HeaderOf(list); header != "" || code != want {
		t.Errorf("HeaderOf(%s) = %s, %d, want %d", shownCookies(list), shown(header), code, want)
	}
	checkCookies(t, list)
}

// inOrder are cookies in the sending order, at each rank of it.
func inOrder() []impl.Cookie {
	var list []impl.Cookie
	for _, path := range []string{"/a/b", "/zz", "/a", "/"} {
		for _, made := range []int{0, 7, 20} {
			for _, id := range []int{1, 2, 1000000000000} {
				list = append(list, cookieWith(func(c *impl.Cookie) { c.Path, c.Made, c.Id, c.Used = path, made, id, 1000-made }))
			}
		}
	}
	return list
}

func TestP8SortedLists(t *testing.T) {
	for _, list := range [][]impl.Cookie{nil, {}, make([]impl.Cookie, 0, 5), {someCookie()}, {fullCookie()}} {
		sorted, code := impl.SortCookies(list)
		if !slices.Equal(sorted, list) || code != 0 {
			t.Errorf("SortCookies(%s) = %s, %d", shownCookies(list), shownCookies(sorted), code)
		}
		checkCookies(t, list)
	}
	source := rand.New(rand.NewSource(14))
	for size := range len(inOrder()) + 1 {
		want := inOrder()[:size]
		list := slices.Clone(want)
		for range 20 {
			sorted, code := impl.SortCookies(list)
			if !slices.Equal(sorted, want) || code != 0 {
				t.Errorf("SortCookies(%s) = %s, %d, want %s", shownCookies(list), shownCookies(sorted), code, shownCookies(want))
			}
			checkCookies(t, list)
			source.Shuffle(size, func(i, k int) { list[i], list[k] = list[k], list[i] })
		}
		slices.Reverse(want)
		checkCookies(t, want)
	}
}

// The cookies are equal in what counts for the order, and too many for a sort of short lists, which is stable anyhow.
func TestP8TheSortIsStable(t *testing.T) {
	for _, size := range []int{2, 3, 12, 13, 50, 500} {
		var equal, mixed []impl.Cookie
		for i := range size {
			equal = append(equal, cookieWith(func(c *impl.Cookie) { c.Value, c.Used = strconv.Itoa(i), 1000-i }))
			mixed = append(mixed, cookieWith(func(c *impl.Cookie) {
				c.Value, c.Path, c.Made, c.Id = strconv.Itoa(i), []string{"/", "/a", "/b"}[i%3], i%2, 1+i%5
			}))
		}
		if sorted, code := impl.SortCookies(equal); !slices.Equal(sorted, equal) || code != 0 {
			t.Errorf("SortCookies of %d equal cookies changes their order", size)
		}
		checkCookies(t, equal)
		checkCookies(t, mixed)
		slices.Reverse(mixed)
		checkCookies(t, mixed)
	}
}

func TestP8TheSameCookieSeveralTimes(t *testing.T) {
	for _, list := range [][]impl.Cookie{slices.Repeat([]impl.Cookie{someCookie()}, 3), slices.Repeat([]impl.Cookie{someCookie(), fullCookie()}, 10), slices.Repeat(inOrder(), 3)} {
		checkCookies(t, list)
	}
}

func TestP8ListsAgainstInsertion(t *testing.T) {
	source := rand.New(rand.NewSource(15))
	for range 3000 {
		var list []impl.Cookie
		for range source.Intn(30) {
			if c := randomCookie(source); cookieByFields(c) || source.Intn(30) == 0 {
				list = append(list, c)
			}
		}
		checkCookies(t, list)
	}
}

// Of cookies with different Ids there is one order, however they were ordered before.
func TestP8ASortedListIsInTheSendingOrder(t *testing.T) {
	source := rand.New(rand.NewSource(16))
	list := numbered(randomCookies(17, 60))
	want, _ := impl.SortCookies(list)
	for i, c := range want {
		if i > 0 && !impl.ComesFirst(want[i-1], c) {
			t.Errorf("%s does not come before %s", shownCookie(want[i-1]), shownCookie(c))
		}
	}
	for range 200 {
		source.Shuffle(len(list), func(i, k int) { list[i], list[k] = list[k], list[i] })
		if sorted, code := impl.SortCookies(list); !slices.Equal(sorted, want) || code != 0 {
			t.Errorf("SortCookies of %d cookies depends on their order", len(list))
		}
	}
}

func TestP8ABadCookieAtEachPlace(t *testing.T) {
	for size := 1; size <= 15; size++ {
		for place := range size {
			for _, bad := range badCookies() {
				list := slices.Clone(inOrder()[:size])
				list[place] = bad
				checkFailingCookies(t, list, impl.ErrBad)
			}
		}
	}
	checkFailingCookies(t, make([]impl.Cookie, 3), impl.ErrBad)
}

func manyCookies(count int) []impl.Cookie {
	list := make([]impl.Cookie, count)
	for i := range list {
		list[i] = someCookie()
		list[i].Id, list[i].Made, list[i].Path = 1+i*7%count, i%10, []string{"/", "/a", "/b/c"}[i%3]
	}
	return list
}

func TestP8ListsOfMaxListCookies(t *testing.T) {
	list := manyCookies(impl.MaxList)
	checkCookies(t, list)
	slices.Reverse(list)
	checkCookies(t, list)
	for _, place := range []int{0, impl.MaxList / 2, impl.MaxList - 1} {
		list := manyCookies(impl.MaxList)
		list[place].Path = ""
		checkFailingCookies(t, list, impl.ErrBad)
	}
	longest := cookieWith(func(c *impl.Cookie) { c.Name = strings.Repeat("n", 99) })
	header, code := impl.HeaderOf(slices.Repeat([]impl.Cookie{longest}, impl.MaxList))
	if want := strings.Repeat("; "+longest.Name+"=v", impl.MaxList)[2:]; header != want || code != 0 {
		t.Errorf("HeaderOf of the longest cookies = %s, %d", shown(header), code)
	}
}

func TestP1ListsOfMoreThanMaxListCookies(t *testing.T) {
	for _, size := range []int{impl.MaxList + 1, 2 * impl.MaxList} {
		list := manyCookies(size)
		checkFailingCookies(t, list, impl.ErrLong)
		checkFailingCookies(t, make([]impl.Cookie, size), impl.ErrLong)
		list[0] = impl.Cookie{}
		checkFailingCookies(t, list, impl.ErrLong)
	}
}

// pairCookies have the given names and values, one after the other.
func pairCookies(pairs ...string) []impl.Cookie {
	var list []impl.Cookie
	for i := 0; i < len(pairs); i += 2 {
		list = append(list, cookieWith(func(c *impl.Cookie) { c.Name, c.Value = pairs[i], pairs[i+1] }))
	}
	return list
}

func TestP8HeaderCases(t *testing.T) {
	for _, v := range []struct {
		want  string
		pairs []string
	}{
		{"", nil}, {"a=b", []string{"a", "b"}}, {"b", []string{"", "b"}}, {"a=", []string{"a", ""}}, {"=b", []string{"", "=b"}}, {"a=b=c", []string{"a", "b=c"}}, {"a=b", []string{"", "a=b"}}, {"a==", []string{"a", "="}},
		{"a=b; c=d", []string{"a", "b", "c", "d"}}, {"a=; c=", []string{"a", "", "c", ""}}, {"b; d", []string{"", "b", "", "d"}}, {"b; c=d; a=; e", []string{"", "b", "c", "d", "a", "", "", "e"}},
		{"c=d; a=b", []string{"c", "d", "a", "b"}}, {"a=b; a=b; a=c", []string{"a", "b", "a", "b", "a", "c"}}, {"a b=c\td", []string{"a b", "c\td"}}, {"\x80=\xff; é=\"x, y\"", []string{"\x80", "\xff", "é", "\"x, y\""}},
	} {
		list := pairCookies(v.pairs...)
		if got, code := impl.HeaderOf(list); got != v.want || code != 0 {
			t.Errorf("HeaderOf the pairs %q = %q, %d, want %q", v.pairs, got, code, v.want)
		}
		checkCookies(t, list)
	}
	for _, list := range [][]impl.Cookie{pairCookies("", ""), pairCookies("a", "b", "", ""), pairCookies("", "", "a", "b")} {
		checkFailingCookies(t, list, impl.ErrBad)
	}
}

// The header has the order of the list, not the order in which cookies are sent.
func TestP8HeadersKeepTheOrderOfTheList(t *testing.T) {
	last := cookieWith(func(c *impl.Cookie) { c.Name, c.Path, c.Id = "last", "/", 9 })
	first := cookieWith(func(c *impl.Cookie) { c.Name, c.Path, c.Id = "first", "/a/b", 1 })
	if got, code := impl.HeaderOf([]impl.Cookie{last, first}); got != "last=v; first=v" || code != 0 {
		t.Errorf("HeaderOf of cookies out of order = %q, %d", got, code)
	}
}

func TestP8PairsOfNamedCookiesAreRecovered(t *testing.T) {
	source := rand.New(rand.NewSource(18))
	names := []string{"n", "a b", "\x80", "n,m", "-", "N\tM", strings.Repeat("n", 60), "x"}
	values := []string{"v", "", "=", "v=w", "==", "a, b", "\xff", "\"", strings.Repeat("v", 40)}
	for range 5000 {
		var pairs []string
		for range source.Intn(8) {
			pairs = append(pairs, names[source.Intn(len(names))], values[source.Intn(len(values))])
		}
		checkPairsRecovered(t, pairs)
	}
	for a := range 256 {
		c := string([]byte{byte(a)})
		for _, pairs := range [][]string{{"x" + c + "y", c}, {c, "x" + c + "y"}, {"n", "v", c, c}} {
			if impl.ParsedOK(plain(pairs[0], pairs[1])) && impl.ParsedOK(plain(pairs[len(pairs)-2], pairs[len(pairs)-1])) {
				checkPairsRecovered(t, pairs)
			}
		}
	}
}

func checkPairsRecovered(t *testing.T, pairs []string) {
	t.Helper()
	header, code := impl.HeaderOf(pairCookies(pairs...))
	again, againCode := impl.ReadPairs(header)
	if code != 0 || againCode != 0 || !slices.Equal(again, pairs) {
		t.Errorf("ReadPairs(%s) = %q, %d, want %q; the code of HeaderOf is %d", shown(header), again, againCode, pairs, code)
	}
}
