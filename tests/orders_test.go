package tests

import (
	"math"
	"slices"
	"strings"
	"testing"

	"loop.example/g00803/impl"
)

func bothByFields(a, b impl.Cookie) bool { return cookieByFields(a) && cookieByFields(b) }

// sendingRanks and evictionRanks are lists of which the lesser one comes first.
func sendingRanks(c impl.Cookie) []int { return []int{-len(c.Path), c.Made, c.Id} }

func evictionRanks(c impl.Cookie, now int) []int {
	ranks := []int{0, 0, c.Used, c.Id}
	if c.Expires > now {
		ranks[0] = 1
	}
	if c.Secure {
		ranks[1] = 1
	}
	return ranks
}

func coversByLists(a, b impl.Cookie) bool {
	domains := matchByLabels(a.Domain, b.Domain) || matchByLabels(b.Domain, a.Domain)
	return bothByFields(a, b) && a.Secure && a.Name == b.Name && domains && matchByPrefixes(b.Path, a.Path)
}

func keyText(c impl.Cookie) string {
	text := c.Domain + " " + c.Path + "\n" + c.Name
	if c.HostOnly {
		return text + "\n"
	}
	return text
}

func orderTimes(a, b impl.Cookie) []int {
	return []int{0, 1, 2, 25, a.Expires - 1, a.Expires, b.Expires - 1, b.Expires, impl.Forever, math.MinInt, math.MinInt + impl.MaxDecimal, math.MaxInt}
}

// checkRelations checks all relations of a to b, and the eviction order at times around their ends.
func checkRelations(t *testing.T, a, b impl.Cookie) {
	t.Helper()
	valid := bothByFields(a, b)
	if got, want := impl.SameKey(a, b), valid && keyText(a) == keyText(b); got != want {
		t.Errorf("SameKey(%s, %s) = %v", shownCookie(a), shownCookie(b), got)
	}
	if got, want := impl.ComesFirst(a, b), valid && slices.Compare(sendingRanks(a), sendingRanks(b)) < 0; got != want {
		t.Errorf("ComesFirst(%s, %s) = %v", shownCookie(a), shownCookie(b), got)
	}
	for _, now := range orderTimes(a, b) {
		want := valid && slices.Compare(evictionRanks(a, now), evictionRanks(b, now)) < 0
		if got := impl.GoesFirst(a, b, now); got != want {
			t.Errorf("GoesFirst(%s, %s, %d) = %v", shownCookie(a), shownCookie(b), now, got)
		}
	}
	if got, want := impl.Covers(a, b), coversByLists(a, b); got != want {
		t.Errorf("Covers(%s, %s) = %v", shownCookie(a), shownCookie(b), got)
	}
}

type cookieChange func(c *impl.Cookie)

func TestP8SameKeyCases(t *testing.T) {
	for i, v := range []struct {
		change cookieChange
		want   bool
	}{
		{func(c *impl.Cookie) {}, true},
		{func(c *impl.Cookie) { c.Name = "Sid" }, false},
		{func(c *impl.Cookie) { c.Name = "" }, false},
		{func(c *impl.Cookie) { c.Domain = "b.example" }, false},
		{func(c *impl.Cookie) { c.Domain = "example" }, false},
		{func(c *impl.Cookie) { c.Path = "/b" }, false},
		{func(c *impl.Cookie) { c.Path = "/a/" }, false},
		{func(c *impl.Cookie) { c.Path = "/A" }, false},
		{func(c *impl.Cookie) { c.HostOnly = true }, false},
		{func(c *impl.Cookie) { c.Id = 6 }, true},
		{func(c *impl.Cookie) { c.Value = "w" }, true},
		{func(c *impl.Cookie) { c.Secure = true }, true},
		{func(c *impl.Cookie) { c.HttpOnly = true }, true},
		{func(c *impl.Cookie) { c.Site = impl.SiteStrict }, true},
		{func(c *impl.Cookie) { c.Expires = 51 }, true},
		{func(c *impl.Cookie) { c.Made = 11 }, true},
		{func(c *impl.Cookie) { c.Used = 21 }, true},
		{func(c *impl.Cookie) {
			*c = impl.Cookie{Id: 9, Name: c.Name, Value: "x", Domain: c.Domain, Path: c.Path, Secure: true, HttpOnly: true, Site: 1, Expires: 1}
		}, true},
	} {
		a, b := someCookie(), cookieWith(v.change)
		if impl.SameKey(a, b) != v.want || impl.SameKey(b, a) != v.want {
			t.Errorf("case %d: SameKey of %s and %s is not %v in both directions", i, shownCookie(a), shownCookie(b), v.want)
		}
		checkRelations(t, a, b)
		checkRelations(t, b, a)
	}
}

// firstCase has two changes of one cookie, of which the first one makes it come before the second one.
type firstCase struct{ first, second cookieChange }

func TestP8SendingOrderAtEachRank(t *testing.T) {
	for i, v := range []firstCase{
		{func(c *impl.Cookie) { c.Path = "/aa" }, func(c *impl.Cookie) { c.Path = "/a" }},
		{func(c *impl.Cookie) { c.Path, c.Made, c.Id = "/aa", 20, 9 }, func(c *impl.Cookie) { c.Path, c.Made, c.Id = "/z", 1, 1 }},
		{func(c *impl.Cookie) { c.Path = filled("/", "a", 60) }, func(c *impl.Cookie) { c.Path = filled("/", "b", 59) }},
		{func(c *impl.Cookie) { c.Path = "/\xff" }, func(c *impl.Cookie) { c.Path = "/" }},
		{func(c *impl.Cookie) { c.Made = 9 }, func(c *impl.Cookie) { c.Made = 10 }},
		{func(c *impl.Cookie) { c.Made, c.Id, c.Path = 9, 9, "/z" }, func(c *impl.Cookie) { c.Made, c.Id = 10, 1 }},
		{func(c *impl.Cookie) { c.Made, c.Used = 0, 1000000000000 }, func(c *impl.Cookie) { c.Made, c.Used = 1000000000000, 1000000000000 }},
		{func(c *impl.Cookie) { c.Id = 4 }, func(c *impl.Cookie) { c.Id = 5 }},
		{func(c *impl.Cookie) { c.Id, c.Path = 4, "/z" }, func(c *impl.Cookie) { c.Id, c.Path = 5, "/a" }},
		{func(c *impl.Cookie) { c.Id = 1 }, func(c *impl.Cookie) { c.Id = 1000000000000 }},
		{func(c *impl.Cookie) { c.Id, c.Used, c.Secure = 4, 21, true }, func(c *impl.Cookie) { c.Id, c.Expires, c.Used = 5, 1, 10 }},
	} {
		a, b := cookieWith(v.first), cookieWith(v.second)
		if !impl.ComesFirst(a, b) || impl.ComesFirst(b, a) {
			t.Errorf("case %d: %s does not come before %s", i, shownCookie(a), shownCookie(b))
		}
	}
}

// The time of the cases is 50: whether it is just an end, just before it or just behind it decides the first rank.
func TestP8EvictionOrderAtEachRank(t *testing.T) {
	for i, v := range []firstCase{
		{func(c *impl.Cookie) { c.Expires = 50 }, func(c *impl.Cookie) { c.Expires = 51 }},
		{func(c *impl.Cookie) { c.Expires = 49 }, func(c *impl.Cookie) { c.Expires = 51 }},
		{func(c *impl.Cookie) { c.Expires = 1 }, func(c *impl.Cookie) { c.Expires = impl.Forever }},
		{func(c *impl.Cookie) { c.Expires, c.Secure, c.Used, c.Id = 50, true, 99, 9 }, func(c *impl.Cookie) { c.Expires, c.Used, c.Id = 51, 10, 1 }},
		{func(c *impl.Cookie) { c.Expires = 50 }, func(c *impl.Cookie) { c.Expires, c.Secure = 49, true }},
		{func(c *impl.Cookie) { c.Expires = 52 }, func(c *impl.Cookie) { c.Expires, c.Secure = 51, true }},
		{func(c *impl.Cookie) { c.Used, c.Id = 99, 9 }, func(c *impl.Cookie) { c.Secure, c.Used, c.Id = true, 10, 1 }},
		{func(c *impl.Cookie) { c.Expires, c.Used, c.Id = 50, 99, 9 }, func(c *impl.Cookie) { c.Expires, c.Secure, c.Used, c.Id = 50, true, 10, 1 }},
		{func(c *impl.Cookie) { c.Used = 19 }, func(c *impl.Cookie) { c.Used = 20 }},
		{func(c *impl.Cookie) { c.Used, c.Id, c.Expires = 19, 9, 50 }, func(c *impl.Cookie) { c.Used, c.Id, c.Expires = 20, 1, 1 }},
		{func(c *impl.Cookie) { c.Used, c.Id, c.Expires, c.Secure = 19, 9, 60, true }, func(c *impl.Cookie) { c.Used, c.Id, c.Expires, c.Secure = 20, 1, 51, true }},
		{func(c *impl.Cookie) { c.Id = 4 }, func(c *impl.Cookie) { c.Id = 5 }},
		{func(c *impl.Cookie) { c.Id, c.Expires, c.Made, c.Path = 4, 50, 11, "/a" }, func(c *impl.Cookie) { c.Id, c.Expires, c.Made, c.Path = 5, 1, 9, "/aa" }},
		{func(c *impl.Cookie) { c.Id, c.Secure, c.Expires = 1, true, impl.Forever }, func(c *impl.Cookie) { c.Id, c.Secure, c.Expires = 1000000000000, true, 51 }},
	} {
		a, b := cookieWith(v.first), cookieWith(v.second)
		if !impl.GoesFirst(a, b, 50) || impl.GoesFirst(b, a, 50) {
			t.Errorf("case %d: %s does not go before %s at 50", i, shownCookie(a), shownCookie(b))
		}
	}
}

// With one, both and none of two cookies expired, and one, both and none of them Secure.
func TestP8EvictionOrderOfExpiredAndSecureCookies(t *testing.T) {
	for _, expires := range [][2]int{{50, 50}, {50, 51}, {51, 50}, {51, 51}, {1, 50}, {50, 49}, {51, 52}, {impl.Forever, 51}} {
		for _, secure := range [][2]bool{{false, false}, {false, true}, {true, false}, {true, true}} {
			for _, used := range [][2]int{{20, 20}, {20, 21}, {21, 20}} {
				for _, id := range [][2]int{{1, 2}, {2, 1}, {1, 1}} {
					a, b := someCookie(), someCookie()
					a.Expires, b.Expires, a.Secure, b.Secure = expires[0], expires[1], secure[0], secure[1]
					a.Used, b.Used, a.Id, b.Id = used[0], used[1], id[0], id[1]
					checkRelations(t, a, b)
				}
			}
		}
	}
}

func TestP8ExtremeTimesOfEviction(t *testing.T) {
	late := cookieWith(func(c *impl.Cookie) { c.Id, c.Expires = 9, impl.Forever })
	early := cookieWith(func(c *impl.Cookie) { c.Id, c.Expires, c.Used = 1, 1, 21 })
	for _, now := range []int{math.MinInt, math.MinInt + 1, math.MinInt + impl.MaxDecimal, -1, 0, impl.Forever, impl.Forever + 1, math.MaxInt - 1, math.MaxInt} {
		if !impl.GoesFirst(late, early, now) || impl.GoesFirst(early, late, now) {
			t.Errorf("at %d, when both or none have expired, the smaller Used does not go first", now)
		}
	}
	for _, now := range []int{1, 2, impl.MaxDecimal, impl.Forever - 1} {
		if impl.GoesFirst(late, early, now) || !impl.GoesFirst(early, late, now) {
			t.Errorf("at %d, the cookie that has expired does not go first", now)
		}
	}
}

func TestP8NoCookiePrecedesItself(t *testing.T) {
	for _, a := range append(randomCookies(11, 1000), someCookie(), fullCookie()) {
		if impl.ComesFirst(a, a) || impl.GoesFirst(a, a, 1) || impl.GoesFirst(a, a, math.MaxInt) {
			t.Errorf("%s precedes itself", shownCookie(a))
		}
	}
}

func secureWith(change cookieChange) impl.Cookie {
	c := someCookie()
	c.Secure = true
	change(&c)
	return c
}

func TestP8CoversCases(t *testing.T) {
	for i, v := range []struct {
		a, b cookieChange
		want bool
	}{
		{func(c *impl.Cookie) {}, func(c *impl.Cookie) {}, true},
		{func(c *impl.Cookie) { c.Secure = false }, func(c *impl.Cookie) {}, false},
		{func(c *impl.Cookie) { c.Secure = false }, func(c *impl.Cookie) { c.Secure = true }, false},
		{func(c *impl.Cookie) {}, func(c *impl.Cookie) { c.Secure = true }, true},
		{func(c *impl.Cookie) {}, func(c *impl.Cookie) { c.Name = "Sid" }, false},
		{func(c *impl.Cookie) { c.Name = "" }, func(c *impl.Cookie) { c.Name = "" }, true},
		{func(c *impl.Cookie) { c.Name = "" }, func(c *impl.Cookie) {}, false},
		{func(c *impl.Cookie) {}, func(c *impl.Cookie) { c.Domain = "example" }, true},
		{func(c *impl.Cookie) {}, func(c *impl.Cookie) { c.Domain = "b.a.example" }, true},
		{func(c *impl.Cookie) {}, func(c *impl.Cookie) { c.Domain = "c.b.a.example" }, true},
		{func(c *impl.Cookie) {}, func(c *impl.Cookie) { c.Domain = "ba.example" }, false},
		{func(c *impl.Cookie) {}, func(c *impl.Cookie) { c.Domain = "b.example" }, false},
		{func(c *impl.Cookie) {}, func(c *impl.Cookie) { c.Domain = "a.other" }, false},
		{func(c *impl.Cookie) { c.Domain = "1.2.3.4" }, func(c *impl.Cookie) { c.Domain = "1.2.3.4" }, true},
		{func(c *impl.Cookie) { c.Domain = "1.2.3.4" }, func(c *impl.Cookie) { c.Domain = "3.4" }, false},
		{func(c *impl.Cookie) { c.Domain = "3.4" }, func(c *impl.Cookie) { c.Domain = "1.2.3.4" }, false},
		{func(c *impl.Cookie) { c.Domain = "3.4" }, func(c *impl.Cookie) { c.Domain = "2.3.4" }, true},
		{func(c *impl.Cookie) { c.Domain = "1.2.3.4" }, func(c *impl.Cookie) { c.Domain = "x.1.2.3.4" }, true},
		{func(c *impl.Cookie) { c.HostOnly = true }, func(c *impl.Cookie) { c.Domain = "b.a.example" }, true},
		{func(c *impl.Cookie) {}, func(c *impl.Cookie) { c.HostOnly, c.Domain = true, "example" }, true},
		{func(c *impl.Cookie) {}, func(c *impl.Cookie) { c.Path = "/a/" }, true},
		{func(c *impl.Cookie) {}, func(c *impl.Cookie) { c.Path = "/a/b" }, true},
		{func(c *impl.Cookie) { c.Path = "/a/b" }, func(c *impl.Cookie) {}, false},
		{func(c *impl.Cookie) { c.Path = "/a/" }, func(c *impl.Cookie) {}, false},
		{func(c *impl.Cookie) { c.Path = "/" }, func(c *impl.Cookie) {}, true},
		{func(c *impl.Cookie) {}, func(c *impl.Cookie) { c.Path = "/" }, false},
		{func(c *impl.Cookie) {}, func(c *impl.Cookie) { c.Path = "/ab" }, false},
		{func(c *impl.Cookie) {}, func(c *impl.Cookie) { c.Path = "/b" }, false},
		{func(c *impl.Cookie) {}, func(c *impl.Cookie) {
			c.Id, c.Value, c.HttpOnly, c.Site, c.Expires, c.Made, c.Used = 9, "w", true, 3, 1, 0, 0
		}, true},
		{func(c *impl.Cookie) { c.Expires = 1 }, func(c *impl.Cookie) {}, true},
	} {
		a, b := secureWith(v.a), cookieWith(v.b)
		if impl.Covers(a, b) != v.want {
			t.Errorf("case %d: Covers(%s, %s) = %v", i, shownCookie(a), shownCookie(b), !v.want)
		}
		checkRelations(t, a, b)
		checkRelations(t, b, a)
	}
}

// All domains in both directions, so that Covers cannot depend on one of them alone.
func TestP8CoversOfDomainsAndPaths(t *testing.T) {
	domains := strings.Fields("example a.example b.a.example xa.example 4 3.4 2.3.4 1.2.3.4 x.1.2.3.4 0.0.0.0")
	for _, from := range domains {
		for _, to := range domains {
			for _, paths := range [][2]string{{"/a", "/a"}, {"/", "/a"}, {"/a", "/a/b"}, {"/a", "/ab"}} {
				a := secureWith(func(c *impl.Cookie) { c.Domain, c.Path = from, paths[0] })
				b := cookieWith(func(c *impl.Cookie) { c.Domain, c.Path = to, paths[1] })
				checkRelations(t, a, b)
				checkRelations(t, b, a)
			}
		}
	}
}

// badCookies are near to someCookie, with one field that is not valid.
func badCookies() []impl.Cookie {
	var list []impl.Cookie
	for _, change := range []cookieChange{
		func(c *impl.Cookie) { *c = impl.Cookie{} },
		func(c *impl.Cookie) { c.Id = 0 },
		func(c *impl.Cookie) { c.Id = 1000000000001 },
		func(c *impl.Cookie) { c.Name = "a=" },
		func(c *impl.Cookie) { c.Name, c.Value = "", "" },
		func(c *impl.Cookie) { c.Value = "v;" },
		func(c *impl.Cookie) { c.Value = strings.Repeat("v", 98) },
		func(c *impl.Cookie) { c.Domain = "A" },
		func(c *impl.Cookie) { c.Domain = "" },
		func(c *impl.Cookie) { c.Path = "" },
		func(c *impl.Cookie) { c.Path = "a" },
		func(c *impl.Cookie) { c.Path = filled("/", "a", 61) },
		func(c *impl.Cookie) { c.Site = 0 },
		func(c *impl.Cookie) { c.Site = 5 },
		func(c *impl.Cookie) { c.Expires = 0 },
		func(c *impl.Cookie) { c.Expires = 2000000000001 },
		func(c *impl.Cookie) { c.Made = -1 },
		func(c *impl.Cookie) { c.Used = 9 },
		func(c *impl.Cookie) { c.Used = 1000000000001 },
	} {
		list = append(list, cookieWith(change), secureWith(change))
	}
	return list
}

// The other cookie comes first, goes first, or covers the bad one but for what is bad.
func TestP8RelationsOfBadCookies(t *testing.T) {
	others := []impl.Cookie{
		secureWith(func(c *impl.Cookie) {}),
		cookieWith(func(c *impl.Cookie) { c.Path, c.Id, c.Expires, c.Used, c.Made = "/a/b", 1, 1, 10, 0 }),
		secureWith(func(c *impl.Cookie) { c.Path, c.Id, c.Used, c.Made = "/", 1000000000000, 1000000000000, 1000000000000 }),
	}
	for _, bad := range badCookies() {
		for _, other := range append(others, bad) {
			for _, v := range [][2]impl.Cookie{{bad, other}, {other, bad}} {
				if impl.SameKey(v[0], v[1]) || impl.ComesFirst(v[0], v[1]) || impl.Covers(v[0], v[1]) {
					t.Errorf("SameKey, ComesFirst or Covers is true for %s and %s", shownCookie(v[0]), shownCookie(v[1]))
				}
				for _, now := range orderTimes(v[0], v[1]) {
					if impl.GoesFirst(v[0], v[1], now) {
						t.Errorf("GoesFirst(%s, %s, %d) is true", shownCookie(v[0]), shownCookie(v[1]), now)
					}
				}
			}
		}
	}
}

func TestP8RelationsAgainstRanks(t *testing.T) {
	list := append(randomCookies(12, 250), badCookies()...)
	for _, a := range list {
		for _, b := range list {
			checkRelations(t, a, b)
		}
	}
}

// numbered gives different Ids to the valid cookies of a list, in no order.
func numbered(list []impl.Cookie) []impl.Cookie {
	list = slices.DeleteFunc(list, func(c impl.Cookie) bool { return !cookieByFields(c) })
	for i := range list {
		list[i].Id = 1 + (i*7)%1009
	}
	return list
}

func checkTotal(t *testing.T, list []impl.Cookie, first func(a, b impl.Cookie) bool) {
	t.Helper()
	for _, a := range list {
		for _, b := range list {
			if first(a, b) == first(b, a) != (a.Id == b.Id) || first(a, b) && a.Id == b.Id {
				t.Errorf("%s and %s are not ordered in one way", shownCookie(a), shownCookie(b))
			}
			if !first(a, b) {
				continue
			}
			for _, c := range list {
				if first(b, c) && !first(a, c) {
					t.Errorf("the order of %s, %s and %s is not transitive", shownCookie(a), shownCookie(b), shownCookie(c))
				}
			}
		}
	}
}

func TestP8TheOrdersAreStrictAndTotal(t *testing.T) {
	list := numbered(randomCookies(13, 70))
	checkTotal(t, list, impl.ComesFirst)
	for _, now := range []int{0, 1, 2, 3, impl.Forever} {
		checkTotal(t, list, func(a, b impl.Cookie) bool { return impl.GoesFirst(a, b, now) })
	}
}
