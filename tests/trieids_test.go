package tests

import (
	"maps"
	"math/rand"
	"slices"
	"strconv"
	"strings"
	"testing"

	"loop.example/g00803/impl"
)

// along returns the Ids of all domains that the host is or is under.
func (d domainIds) along(host string) []int {
	var ids []int
	for domain, list := range d {
		if domain != "" && (host == domain || isUnder(host, domain)) {
			ids = append(ids, list...)
		}
	}
	slices.Sort(ids)
	return ids
}

// all sorts the domains by their labels from the last one on.
func (d domainIds) all() []int {
	var paths [][]string
	for domain := range d {
		path := labelsByBytes(domain)
		slices.Reverse(path)
		paths = append(paths, path)
	}
	slices.SortFunc(paths, slices.Compare[[]string])
	var ids []int
	for _, path := range paths {
		slices.Reverse(path)
		ids = append(ids, slices.Sorted(slices.Values(d[strings.Join(path, ".")]))...)
	}
	return ids
}

func (d domainIds) nodes() int {
	seen := map[string]bool{}
	for domain, ids := range d {
		for n := 1; domain != "" && len(ids) > 0 && n <= len(labelsByBytes(domain)); n++ {
			seen[tailOf(domain, n)] = true
		}
	}
	return len(seen)
}

func (d domainIds) add(domain string, id int) int {
	switch all := d.all(); {
	case id < 1 || id > 1000000000000:
		return impl.ErrRange
	case slices.Contains(all, id):
		return impl.ErrSame
	case len(all) == 16:
		return impl.ErrFull
	}
	d[domain] = append(d[domain], id)
	return 0
}

func (d domainIds) remove(domain string, id int) int {
	place := slices.Index(d[domain], id)
	if place < 0 {
		return impl.ErrNone
	}
	d[domain] = slices.Delete(d[domain], place, place+1)
	if len(d[domain]) == 0 {
		delete(d, domain)
	}
	return 0
}

// checkAdd and checkRemove also make sure that the trie is unchanged.
func checkAdd(t *testing.T, d domainIds, domain string, id int) {
	t.Helper()
	given, before := d.trie(), shownTrie(d.trie())
	changed := d.copied()
	wantCode := changed.add(domain, id)
	want := shownTrie(changed.trie())
	if wantCode == impl.ErrRange {
		want = shownTrie(impl.Node{})
	}
	got, code := impl.TrieAdd(given, domain, id)
	if shownTrie(got) != want || code != wantCode {
		t.Errorf("TrieAdd(%s, %s, %d) = %s, %d, want %s, %d", before, domain, id, shownTrie(got), code, want, wantCode)
	}
	if shownTrie(given) != before || !impl.TrieOK(got) {
		t.Errorf("TrieAdd(%s, %s, %d) made %s of the trie and returned %s", before, domain, id, shownTrie(given), shownTrie(got))
	}
}

func checkRemove(t *testing.T, d domainIds, domain string, id int) {
	t.Helper()
	given, before := d.trie(), shownTrie(d.trie())
	changed := d.copied()
	wantCode := changed.remove(domain, id)
	want := shownTrie(changed.trie())
	got, code := impl.TrieRemove(given, domain, id)
	if shownTrie(got) != want || code != wantCode {
		t.Errorf("TrieRemove(%s, %s, %d) = %s, %d, want %s, %d", before, domain, id, shownTrie(got), code, want, wantCode)
	}
	if shownTrie(given) != before || !impl.TrieOK(got) {
		t.Errorf("TrieRemove(%s, %s, %d) made %s of the trie and returned %s", before, domain, id, shownTrie(given), shownTrie(got))
	}
}

func checkAlong(t *testing.T, d domainIds, host string) {
	t.Helper()
	given, before := d.trie(), shownTrie(d.trie())
	if ids, code := impl.TrieAlong(given, host); !slices.Equal(ids, d.along(host)) || code != 0 {
		t.Errorf("TrieAlong(%s, %s) = %v, %d, want %v", before, host, ids, code, d.along(host))
	}
	if shownTrie(given) != before {
		t.Errorf("TrieAlong(%s, %s) made %s of the trie", before, host, shownTrie(given))
	}
}

func checkWholeTrie(t *testing.T, d domainIds) {
	t.Helper()
	given, before := d.trie(), shownTrie(d.trie())
	if ids, code := impl.TrieAll(given); !slices.Equal(ids, d.all()) || code != 0 {
		t.Errorf("TrieAll(%s) = %v, %d, want %v", before, ids, code, d.all())
	}
	if count, code := impl.TrieNodes(given); count != d.nodes() || code != 0 {
		t.Errorf("TrieNodes(%s) = %d, %d, want %d", before, count, code, d.nodes())
	}
	if shownTrie(given) != before {
		t.Errorf("TrieAll or TrieNodes made %s of the trie %s", shownTrie(given), before)
	}
}

var exampleLines = []string{"a.example 2 3", "b.a.example 5", "example 9", "x.ck 1"}

type trieCase struct {
	lines  []string
	domain string
	id     int
	want   []string
	code   int
}

// checkTrieCases also checks the model of the random tests against each case.
func checkTrieCases(t *testing.T, name string, list []trieCase, change func(impl.Node, string, int) (impl.Node, int), check func(*testing.T, domainIds, string, int)) {
	t.Helper()
	for _, v := range list {
		got, code := change(trieOf(v.lines...), v.domain, v.id)
		if want := trieOf(v.want...); shownTrie(got) != shownTrie(want) || code != v.code {
			t.Errorf("%s(%s, %s, %d) = %s, %d, want %s, %d", name, shownTrie(trieOf(v.lines...)), v.domain, v.id, shownTrie(got), code, shownTrie(want), v.code)
		}
		check(t, readDomains(v.lines...), v.domain, v.id)
	}
}

func TestP9AddedIds(t *testing.T) {
	checkTrieCases(t, "TrieAdd", []trieCase{
		{nil, "a", 1, []string{"a 1"}, 0}, {nil, "a", 1000000000000, []string{"a 1000000000000"}, 0}, {nil, "b.a", 1, []string{"b.a 1"}, 0}, {nil, "f.e.d.c.b.a", 7, []string{"f.e.d.c.b.a 7"}, 0}, {nil, "1.2.3.4", 7, []string{"1.2.3.4 7"}, 0}, {nil, "a.a.a", 7, []string{"a.a.a 7"}, 0},
		{[]string{"a 1"}, "a", 2, []string{"a 1 2"}, 0}, {[]string{"a 2"}, "a", 1, []string{"a 1 2"}, 0}, {[]string{"a 1 5"}, "a", 3, []string{"a 1 3 5"}, 0},
		{[]string{"b.a 1"}, "a", 2, []string{"b.a 1", "a 2"}, 0}, {[]string{"a 1"}, "b.a", 2, []string{"a 1", "b.a 2"}, 0}, {[]string{"c.b.a 1"}, "b.a", 2, []string{"c.b.a 1", "b.a 2"}, 0}, {[]string{"c.b.a 1"}, "x.b.a", 2, []string{"c.b.a 1", "x.b.a 2"}, 0},
		{[]string{"b 1"}, "a", 2, []string{"a 2", "b 1"}, 0}, {[]string{"a 1", "c 2"}, "b", 3, []string{"a 1", "b 3", "c 2"}, 0}, {[]string{"a 1"}, "b", 3, []string{"a 1", "b 3"}, 0}, {[]string{"a 1"}, "a-", 3, []string{"a 1", "a- 3"}, 0}, {[]string{"9 1"}, "10", 3, []string{"10 3", "9 1"}, 0},
		{[]string{". 5", "a 1"}, "a", 6, []string{". 5", "a 1 6"}, 0}, {exampleLines, "b.ck", 4, append([]string{"b.ck 4"}, exampleLines...), 0},
	}, impl.TrieAdd, checkAdd)
}

func TestP9IdsThatAreThere(t *testing.T) {
	var list []trieCase
	for _, domain := range []string{"a.example", "b.a.example", "example", "x.ck", "ck", "zap", "y.x.ck", "1.2.3.4"} {
		for _, id := range []int{1, 2, 3, 5, 9} {
			list = append(list, trieCase{exampleLines, domain, id, exampleLines, impl.ErrSame})
		}
	}
	list = append(list, trieCase{[]string{". 5"}, "a", 5, []string{". 5"}, impl.ErrSame}, trieCase{[]string{"a 5"}, "a", 5, []string{"a 5"}, impl.ErrSame})
	checkTrieCases(t, "TrieAdd", list, impl.TrieAdd, checkAdd)
}

func TestP9IdsBeyondTheLimits(t *testing.T) {
	var list []trieCase
	for _, id := range []int{0, -1, 1000000000001, 9223372036854775807, -9223372036854775808} {
		list = append(list, trieCase{nil, "a", id, nil, impl.ErrRange}, trieCase{exampleLines, "x.ck", id, nil, impl.ErrRange}, trieCase{fullLines(), "x1", id, nil, impl.ErrRange})
	}
	list = append(list, trieCase{exampleLines, "x.ck", 1000000000000, []string{"a.example 2 3", "b.a.example 5", "example 9", "x.ck 1 1000000000000"}, 0})
	checkTrieCases(t, "TrieAdd", list, impl.TrieAdd, checkAdd)
}

func fullLines() []string {
	var lines []string
	for domain, ids := range fullDomains() {
		lines = append(lines, domain+" "+strconv.Itoa(ids[0]))
	}
	return lines
}

// An Id that is there counts before the lack of a place for it.
func TestP9FullTries(t *testing.T) {
	oneNode, oneRoot := "a", "."
	for id := 1; id <= 16; id++ {
		oneNode += " " + strconv.Itoa(id)
		oneRoot += " " + strconv.Itoa(id)
	}
	for _, lines := range [][]string{fullLines(), {oneNode}, {oneRoot}, {strings.TrimSuffix(oneNode, " 16"), "b 16"}, {strings.TrimSuffix(oneRoot, " 16"), "b 16"}} {
		var list []trieCase
		for _, domain := range []string{"a", "b", "f.e.d.c.b.x3", "b.a"} {
			list = append(list, trieCase{lines, domain, 17, lines, impl.ErrFull}, trieCase{lines, domain, 1000000000000, lines, impl.ErrFull}, trieCase{lines, domain, 16, lines, impl.ErrSame}, trieCase{lines, domain, 1, lines, impl.ErrSame})
		}
		checkTrieCases(t, "TrieAdd", list, impl.TrieAdd, checkAdd)
	}
	checkTrieCases(t, "TrieAdd", []trieCase{{[]string{strings.TrimSuffix(oneNode, " 16")}, "a", 16, []string{oneNode}, 0}, {[]string{strings.TrimSuffix(oneRoot, " 16")}, "b", 16, []string{strings.TrimSuffix(oneRoot, " 16"), "b 16"}, 0}}, impl.TrieAdd, checkAdd)
}

func TestP9RemovedIds(t *testing.T) {
	checkTrieCases(t, "TrieRemove", []trieCase{
		{[]string{"a 1"}, "a", 1, nil, 0}, {[]string{"b.a 1"}, "b.a", 1, nil, 0}, {[]string{"f.e.d.c.b.a 1"}, "f.e.d.c.b.a", 1, nil, 0}, {[]string{". 5", "c.b.a 1"}, "c.b.a", 1, []string{". 5"}, 0}, {[]string{"1.2.3.4 1"}, "1.2.3.4", 1, nil, 0},
		{[]string{"a 1 2 3"}, "a", 1, []string{"a 2 3"}, 0}, {[]string{"a 1 2 3"}, "a", 2, []string{"a 1 3"}, 0}, {[]string{"a 1 2 3"}, "a", 3, []string{"a 1 2"}, 0},
		{[]string{"a 1", "b.a 2"}, "a", 1, []string{"b.a 2"}, 0}, {[]string{"a 1", "b.a 2"}, "b.a", 2, []string{"a 1"}, 0}, {[]string{"a 1", "d.c.b.a 2"}, "d.c.b.a", 2, []string{"a 1"}, 0}, {[]string{"b.a 1", "f.e.d.c.b.a 2"}, "f.e.d.c.b.a", 2, []string{"b.a 1"}, 0},
		{[]string{"d.c.b.a 1", "x.b.a 2"}, "d.c.b.a", 1, []string{"x.b.a 2"}, 0}, {[]string{"d.c.b.a 1", "x.b.a 2"}, "x.b.a", 2, []string{"d.c.b.a 1"}, 0}, {[]string{"c.b.a 1", "b.a 2", "a 3"}, "b.a", 2, []string{"c.b.a 1", "a 3"}, 0},
		{[]string{"a 1", "b 2", "c 3"}, "a", 1, []string{"b 2", "c 3"}, 0}, {[]string{"a 1", "b 2", "c 3"}, "b", 2, []string{"a 1", "c 3"}, 0}, {[]string{"a 1", "b 2", "c 3"}, "c", 3, []string{"a 1", "b 2"}, 0},
		{exampleLines, "x.ck", 1, exampleLines[:3], 0}, {exampleLines, "example", 9, []string{"a.example 2 3", "b.a.example 5", "x.ck 1"}, 0}, {exampleLines, "a.example", 2, []string{"a.example 3", "b.a.example 5", "example 9", "x.ck 1"}, 0},
	}, impl.TrieRemove, checkRemove)
}

func TestP9IdsThatAreNotThere(t *testing.T) {
	var list []trieCase
	for _, lines := range [][]string{exampleLines, {"a 4", ". 7"}, {"f.e.d.c.b.a 4"}, nil, fullLines()} {
		for _, domain := range []string{"c.a.example", "y.x.ck", "ck", "zap", "a", "b.a", "a.a.a.a.a.a", "1.2.3.4", "e.d.c.b.a"} {
			for _, id := range []int{1, 2, 7, 1000000000000, 0, -1, 1000000000001, 9223372036854775807, -9223372036854775808} {
				list = append(list, trieCase{lines, domain, id, lines, impl.ErrNone})
			}
		}
	}
	for _, v := range []struct {
		domain string
		id     int
	}{{"example", 2}, {"a.example", 9}, {"b.a.example", 3}, {"x.ck", 9}, {"example", 5}, {"a.example", 5}, {"a.example", 4}, {"example", 0}} {
		list = append(list, trieCase{exampleLines, v.domain, v.id, exampleLines, impl.ErrNone})
	}
	checkTrieCases(t, "TrieRemove", list, impl.TrieRemove, checkRemove)
}

func TestP9IdsAlongAHost(t *testing.T) {
	lines := append([]string{". 16", "4 12", "3.4 11", "1.2.3.4 10", "f.e.d.c.b.a 14", "c.b.a 13"}, exampleLines...)
	for _, v := range []struct {
		host string
		want []int
	}{
		{"example", []int{9}}, {"a.example", []int{2, 3, 9}}, {"b.a.example", []int{2, 3, 5, 9}}, {"q.b.a.example", []int{2, 3, 5, 9}}, {"z.y.q.b.a.example", []int{2, 3, 5, 9}}, {"c.a.example", []int{2, 3, 9}}, {"b.x.example", []int{9}}, {"xample", nil}, {"xexample", nil}, {"b.aa.example", []int{9}}, {"example.a", nil},
		{"ck", nil}, {"x.ck", []int{1}}, {"y.ck", nil}, {"y.x.ck", []int{1}}, {"zap", nil}, {"x.ck.zap", nil},
		{"a", nil}, {"b.a", nil}, {"c.b.a", []int{13}}, {"d.c.b.a", []int{13}}, {"e.d.c.b.a", []int{13}}, {"f.e.d.c.b.a", []int{13, 14}}, {"x.e.d.c.b.a", []int{13}}, {"x.d.c.b.a", []int{13}},
		{"1.2.3.4", []int{10, 11, 12}}, {"2.3.4", []int{11, 12}}, {"9.9.3.4", []int{11, 12}}, {"4", []int{12}}, {"1.2.3.5", nil}, {"x.1.2.3.4", []int{10, 11, 12}},
	} {
		if ids, code := impl.TrieAlong(trieOf(lines...), v.host); !slices.Equal(ids, v.want) || code != 0 {
			t.Errorf("TrieAlong(%s) = %v, %d, want %v", v.host, ids, code, v.want)
		}
		checkAlong(t, readDomains(lines...), v.host)
	}
	if ids, code := impl.TrieAlong(impl.Node{}, "a"); len(ids) != 0 || code != 0 {
		t.Errorf("TrieAlong of the empty trie = %v, %d", ids, code)
	}
}

// The Ids of the nodes are mixed, so that neither the order of the nodes nor its reverse sorts them.
func TestP9IdsAlongAHostAreSorted(t *testing.T) {
	n := trieOf("a 5 9", "b.a 1 12", "c.b.a 7", "d.c.b.a 2 6 10")
	if ids, code := impl.TrieAlong(n, "d.c.b.a"); !slices.Equal(ids, []int{1, 2, 5, 6, 7, 9, 10, 12}) || code != 0 {
		t.Errorf("TrieAlong(d.c.b.a) = %v, %d", ids, code)
	}
	if ids, code := impl.TrieAll(n); !slices.Equal(ids, []int{5, 9, 1, 12, 7, 2, 6, 10}) || code != 0 {
		t.Errorf("TrieAll = %v, %d", ids, code)
	}
}

func TestP9AllIds(t *testing.T) {
	for _, v := range []struct {
		lines []string
		want  []int
		nodes int
	}{
		{nil, nil, 0}, {[]string{". 7"}, []int{7}, 0}, {[]string{". 7 8", "a 1"}, []int{7, 8, 1}, 1}, {exampleLines, []int{1, 9, 2, 3, 5}, 5}, {[]string{"a 1"}, []int{1}, 1}, {[]string{"f.e.d.c.b.a 1"}, []int{1}, 6},
		{[]string{"b 1", "a 2"}, []int{2, 1}, 2}, {[]string{"b.a 1", "a 2", "b 3"}, []int{2, 1, 3}, 3}, {[]string{"z.a 1", "a.z 2", "y.a 3", "c.y.a 4", "a.y.a 5"}, []int{3, 5, 4, 1, 2}, 7}, {[]string{"9 1", "10 2", "_ 3", "- 4"}, []int{4, 2, 1, 3}, 4},
	} {
		n := trieOf(v.lines...)
		if ids, code := impl.TrieAll(n); !slices.Equal(ids, v.want) || code != 0 {
			t.Errorf("TrieAll(%s) = %v, %d, want %v", shownTrie(n), ids, code, v.want)
		}
		if count, code := impl.TrieNodes(n); count != v.nodes || code != 0 {
			t.Errorf("TrieNodes(%s) = %d, %d, want %d", shownTrie(n), count, code, v.nodes)
		}
		checkWholeTrie(t, readDomains(v.lines...))
	}
}

// trieHosts are hosts at, below, above and beside the domains.
func trieHosts(d domainIds) []string {
	list := []string{"a", "zap", "1.2.3.4"}
	for domain := range d {
		list = append(list, domain, "x."+domain, "b.a."+domain, "x"+domain, domain+".x")
		for n := range 6 {
			list = append(list, tailOf(domain, n), "y."+tailOf(domain, n))
		}
	}
	slices.Sort(list)
	return onlyHosts(slices.Compact(list))
}

func TestP9AnIdIsFoundAlongTheHostsOfItsDomain(t *testing.T) {
	source := rand.New(rand.NewSource(22))
	for range 1000 {
		d := randomDomains(source)
		hosts := trieHosts(d)
		domain, id := hosts[source.Intn(len(hosts))], 2+source.Intn(1000)*3
		n := d.trie()
		added, code := impl.TrieAdd(n, domain, id)
		if len(d.all()) == 16 {
			continue
		}
		if code != 0 {
			t.Errorf("TrieAdd(%s, %s, %d) = %d", shownTrie(n), domain, id, code)
		}
		for _, host := range append(hosts, "x."+domain, "x"+domain) {
			ids, _ := impl.TrieAlong(added, host)
			before, _ := impl.TrieAlong(n, host)
			want := host == domain || strings.HasSuffix(host, "."+domain)
			if hostByForm(host) && (slices.Contains(ids, id) != want || len(ids) != len(before) && !want) {
				t.Errorf("after TrieAdd(%s, %s, %d), TrieAlong(%s) = %v", shownTrie(n), domain, id, host, ids)
			}
		}
		if restored, code := impl.TrieRemove(added, domain, id); code != 0 || !impl.SameTrie(restored, n) || shownTrie(restored) != shownTrie(n) {
			t.Errorf("TrieRemove(%s, %s, %d) = %s, %d, want %s", shownTrie(added), domain, id, shownTrie(restored), code, shownTrie(n))
		}
	}
}

func TestP9RandomStepsAgainstDomains(t *testing.T) {
	source := rand.New(rand.NewSource(23))
	for range 300 {
		d := randomDomains(source)
		for range 20 {
			hosts, ids := trieHosts(d), append(d.all(), 0, 1, 2, 50, 1000000000000)
			host, id := hosts[source.Intn(len(hosts))], ids[source.Intn(len(ids))]
			checkAdd(t, d, host, id)
			checkRemove(t, d, host, id)
			checkAlong(t, d, host)
			checkWholeTrie(t, d)
			if source.Intn(2) == 0 {
				d.add(host, id)
			} else {
				d.remove(host, id)
			}
		}
	}
}

// Every Id of every trie can be removed, until the trie is empty.
func TestP9TriesAreEmptiedInAnyOrder(t *testing.T) {
	source := rand.New(rand.NewSource(24))
	for range 500 {
		d := randomDomains(source)
		delete(d, "")
		n := d.trie()
		for len(d) > 0 {
			domains := slices.Sorted(maps.Keys(d))
			domain := domains[source.Intn(len(domains))]
			id := d[domain][source.Intn(len(d[domain]))]
			var code int
			n, code = impl.TrieRemove(n, domain, id)
			d.remove(domain, id)
			if code != 0 || shownTrie(n) != shownTrie(d.trie()) {
				t.Fatalf("TrieRemove(%s, %d) = %s, %d, want %s", domain, id, shownTrie(n), code, shownTrie(d.trie()))
			}
		}
		if !impl.SameTrie(n, impl.Node{}) {
			t.Errorf("the emptied trie is %s", shownTrie(n))
		}
	}
}
