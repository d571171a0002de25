package tests

import (
	"slices"
	"strings"
	"testing"

	"loop.example/g00803/impl"
)

// nearRequest is mostly for the host and the path of a cookie in the jar, or for ones below them.
func (w jarWords) nearRequest(j impl.Jar) impl.Request {
	r := w.request()
	if len(j.Cookies) == 0 || w.chance(6) {
		return r
	}
	c := j.Cookies[w.source.Intn(len(j.Cookies))]
	r.Host, r.Path = c.Domain, c.Path
	if w.chance(2) {
		r.Host = "c." + c.Domain
	}
	if w.chance(2) && len(c.Path) < 30 {
		r.Path += "/x/y"
	}
	if w.chance(2) {
		r.Safe, r.Http, r.Same, r.Top = true, true, true, true
	}
	return r
}

func TestP13RunsAgainstLists(t *testing.T) {
	codes, sent := map[int]int{}, 0
	runs(41, 250, func(w jarWords, j impl.Jar, r impl.Request, header string) impl.Jar {
		next, _, code := impl.StoreHeader(j, r, header)
		if code != 0 {
			next = j
		}
		list, after, _, code := checkRetrieval(t, next, w.nearRequest(next))
		codes[code]++
		if code != 0 {
			return next
		}
		sent += len(list)
		return after
	})
	if codes[0] < 5000 || codes[impl.ErrBad] < 30 || sent < 3000 {
		t.Errorf("the codes are %v, and %d cookies are sent", codes, sent)
	}
}

// crowdedJar has cookies of so few hosts and paths that a request gets several of them.
func (w jarWords) crowdedJar() impl.Jar {
	j := jarOf()
	j.PerParty, j.Now = 12, w.source.Intn(4)
	for id := 1; id < 20; id++ {
		c := randomCookie(w.source)
		c.Id, c.Made, c.Used = id, min(c.Made, j.Now), min(c.Used, j.Now)
		c.Domain, c.Path, c.Expires = w.pick(words("a.example b.a.example")), w.pick(words("/ /x /x/ /x/y")), w.source.Intn(12)
		next := j
		next.Cookies = append(slices.Clone(j.Cookies), c)
		if jarByFields(next) {
			j = next
		}
	}
	return j
}

func TestP13CrowdedJarsAgainstLists(t *testing.T) {
	w, sizes, reordered := newJarWords(44), map[int]int{}, 0
	for range 250 {
		j := w.crowdedJar()
		for range 5 {
			list, after, _, _ := checkRetrieval(t, j, w.nearRequest(j))
			sizes[min(len(list), 5)]++
			if !slices.IsSorted(idsOf(impl.Jar{Cookies: list})) {
				reordered++
			}
			if len(after.Cookies) > 0 {
				j, _ = impl.Advance(after, w.source.Intn(2))
			}
		}
	}
	for size := range 6 {
		if sizes[size] < 50 || reordered < 300 {
			t.Errorf("%d requests get %d cookies, and %d get them in another order than that of the jar", sizes[size], size, reordered)
		}
	}
}

// The header has the pairs of all cookies of the jar that match, and of no other one.
func TestP13HeadersOfARun(t *testing.T) {
	sent := 0
	runs(42, 200, func(w jarWords, j impl.Jar, r impl.Request, header string) impl.Jar {
		next, _, code := impl.StoreHeader(j, r, header)
		if code != 0 {
			next = j
		}
		r = w.nearRequest(next)
		_, told, code := impl.Retrieve(next, r)
		pairs, _ := impl.PairsFor(next, r)
		if code != 0 {
			return next
		}
		var want, got []string
		for _, c := range next.Cookies {
			if reason, _ := impl.WhyNot(c, r, next.Now); reason == 0 {
				want = append(want, strings.TrimPrefix(c.Name+"="+c.Value, "="))
			}
		}
		if told != "" {
			got = strings.Split(told, "; ")
		}
		sent += len(got)
		slices.Sort(want)
		slices.Sort(got)
		if !slices.Equal(got, want) || len(pairs) != 2*len(want) {
			t.Errorf("for %s the jar %s sends %q with the pairs %q, but those that match are %q", shownRequest(r), shownJar(next), told, pairs, want)
		}
		return next
	})
	if sent < 2000 {
		t.Errorf("only %d cookies are sent", sent)
	}
}

// A cookie that is sent was set by a host that its Domain matches, and goes to such a host alone; if it is HostOnly, to its Domain itself.
func TestP13HostsThatGetTheCookiesOfARun(t *testing.T) {
	hosts, sent := map[int]string{}, 0
	runs(43, 300, func(w jarWords, j impl.Jar, r impl.Request, header string) impl.Jar {
		if len(j.Cookies) == 0 {
			clear(hosts)
		}
		next, told, code := impl.StoreHeader(j, r, header)
		if code != 0 {
			return j
		}
		if told == 0 {
			hosts[j.Next] = r.Host
		}
		to := w.nearRequest(next)
		list, _ := impl.CookiesFor(next, to)
		for _, c := range list {
			sent++
			if !matchByLabels(to.Host, c.Domain) || !matchByLabels(hosts[c.Id], c.Domain) || c.HostOnly && c.Domain != to.Host || c.Expires <= next.Now {
				t.Errorf("%s, which was set by %q, is sent to %q at %d", shownCookie(c), hosts[c.Id], to.Host, next.Now)
			}
		}
		return next
	})
	if sent < 2000 {
		t.Errorf("only %d cookies are sent", sent)
	}
}
