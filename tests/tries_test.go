package tests

import (
	"maps"
	"math/rand"
	"slices"
	"strconv"
	"strings"
	"testing"

	"loop.example/g00803/impl"
)

// shownTrie is the same text for two tries that differ only in nil and empty slices.
func shownTrie(n impl.Node) string {
	var parts []string
	for _, id := range n.Ids {
		parts = append(parts, strconv.Itoa(id))
	}
	for _, kid := range n.Kids {
		parts = append(parts, shownTrie(kid))
	}
	return strconv.Quote(n.Label) + "(" + strings.Join(parts, " ") + ")"
}

func node(label string, ids []int, kids ...impl.Node) impl.Node {
	return impl.Node{Label: label, Ids: ids, Kids: kids}
}

func leaf(label string, ids ...int) impl.Node { return node(label, ids) }

func root(kids ...impl.Node) impl.Node { return node("", nil, kids...) }

// chain is a path of nodes, of which the last one alone has Ids.
func chain(labels string, ids ...int) impl.Node {
	list := strings.Fields(labels)
	n := leaf(list[len(list)-1], ids...)
	for _, label := range slices.Backward(list[:len(list)-1]) {
		n = node(label, nil, n)
	}
	return n
}

// domainIds are the Ids of each domain, and those of the root at the empty domain.
type domainIds map[string][]int

// readDomains reads lines of a domain and its Ids; a period stands for the root.
func readDomains(lines ...string) domainIds {
	d := domainIds{}
	for _, line := range lines {
		fields := words(line)
		domain := strings.TrimPrefix(fields[0], ".")
		for _, field := range fields[1:] {
			id, _ := strconv.Atoi(field)
			d[domain] = append(d[domain], id)
		}
	}
	return d
}

func (d domainIds) copied() domainIds {
	other := domainIds{}
	for domain, ids := range d {
		other[domain] = slices.Clone(ids)
	}
	return other
}

func isUnder(domain, other string) bool {
	return domain != other && (other == "" || strings.HasSuffix(domain, "."+other))
}

// trie builds each node from all the domains under it.
func (d domainIds) trie() impl.Node { return d.node("", "") }

func (d domainIds) node(label, domain string) impl.Node {
	n := impl.Node{Label: label, Ids: slices.Sorted(slices.Values(d[domain]))}
	labels := map[string]bool{}
	for other, ids := range d {
		if isUnder(other, domain) && len(ids) > 0 {
			parts := labelsByBytes(strings.TrimSuffix(strings.TrimSuffix(other, domain), "."))
			labels[parts[len(parts)-1]] = true
		}
	}
	for _, kid := range slices.Sorted(maps.Keys(labels)) {
		n.Kids = append(n.Kids, d.node(kid, strings.TrimSuffix(kid+"."+domain, ".")))
	}
	return n
}

func trieOf(lines ...string) impl.Node { return readDomains(lines...).trie() }

// fullDomains has as many nodes as a trie can have.
func fullDomains() domainIds {
	d := domainIds{}
	for id := 1; id <= 16; id++ {
		d["f.e.d.c.b.x"+strconv.Itoa(id)] = []int{id * 7 % 17}
	}
	return d
}

// trieByRules counts everything first and judges then; it does not end for a trie without end.
func trieByRules(n impl.Node) bool {
	valid, nodes, seen := n.Label == "", 0, map[int]bool{}
	var visit func(n impl.Node, depth int)
	visit = func(n impl.Node, depth int) {
		nodes++
		valid = valid && depth <= 6 && (depth == 0 || len(n.Ids)+len(n.Kids) > 0)
		for i, id := range n.Ids {
			valid = valid && id >= 1 && id <= 1000000000000 && !seen[id] && (i == 0 || n.Ids[i-1] < id)
			seen[id] = true
		}
		for i, kid := range n.Kids {
			valid = valid && hostByForm(kid.Label) && len(labelsByBytes(kid.Label)) == 1 && (i == 0 || n.Kids[i-1].Label < kid.Label)
			visit(kid, depth+1)
		}
	}
	visit(n, 0)
	return valid && len(seen) <= 16 && nodes <= 97
}

func checkTrie(t *testing.T, n impl.Node, want bool) {
	t.Helper()
	before := shownTrie(n)
	if got := impl.TrieOK(n); got != want {
		t.Errorf("TrieOK(%s) = %v, want %v", before, got, want)
	}
	if got := impl.SameTrie(n, n); got != want {
		t.Errorf("SameTrie(%s) with itself = %v, want %v", before, got, want)
	}
	if by := trieByRules(n); by != want {
		t.Errorf("trieByRules(%s) = %v, want %v", before, by, want)
	}
	if shownTrie(n) != before {
		t.Errorf("the trie %s became %s", before, shownTrie(n))
	}
}

// validTries are the edge cases of what a trie may be.
func validTries() []impl.Node {
	a, most := strings.Repeat("a", 40), []int{1, 2, 3, 4, 5, 6, 7, 8, 9, 10, 11, 12, 13, 14, 15, 16}
	wide := impl.Node{}
	for id := 1; id <= 16; id++ {
		wide.Kids = append(wide.Kids, leaf("x"+strconv.Itoa(100+id), id))
	}
	return []impl.Node{
		{}, {Ids: []int{}, Kids: []impl.Node{}}, {Ids: []int{7}}, {Ids: []int{1}}, {Ids: []int{1000000000000}}, {Ids: most}, wide,
		root(leaf("a", 1)), root(leaf("a", 1000000000000)), root(leaf("a", 1, 2, 1000000000000)), root(leaf("a", most...)), node("", most[:15], leaf("a", 16)), node("", most[8:], leaf("a", most[:8]...)),
		root(leaf("a", 1), leaf("b", 2)), root(leaf("a", 2), leaf("b", 1)), root(leaf("-", 4), leaf("0", 3), leaf("_", 2), leaf("a", 1)), root(leaf("a", 1), leaf("a-", 2), leaf("aa", 3)), root(leaf("10", 1), leaf("9", 2)),
		root(node("a", []int{2}, leaf("a", 1))), root(chain("a a", 1)), root(chain("a", 1), chain("b a", 2)), root(leaf(a, 1)), root(chain(a+" "+a, 1)),
		root(chain("a b c d e f", 1)), root(node("a", nil, chain("b c d e f", 1), leaf("c", 2))), root(node("a", []int{3}, node("b", []int{2}, leaf("c", 1)))), node("", []int{4}, node("a", []int{3}, leaf("b", 5))),
		fullDomains().trie(), trieOf("a.example 2 3", "b.a.example 5", "example 9", "x.ck 1"), root(leaf("1", 1), chain("4 3 2 1", 2)),
	}
}

// invalidTries each break one of the rules at least.
func invalidTries() []impl.Node {
	a, tooMany := strings.Repeat("a", 41), []int{1, 2, 3, 4, 5, 6, 7, 8, 9, 10, 11, 12, 13, 14, 15, 16, 17}
	spread, more := impl.Node{}, fullDomains().trie()
	for id := 1; id <= 17; id++ {
		spread.Kids = append(spread.Kids, leaf("x"+strconv.Itoa(100+id), id))
	}
	more.Kids = append(more.Kids, leaf("y", 17))
	empty, deeper := fullDomains().trie(), fullDomains().trie()
	empty.Kids = append(empty.Kids, impl.Node{Label: "y"})
	deeper.Kids[0] = chain("x1 b c d e f g", 7)
	list := []impl.Node{
		{Label: "a"}, leaf("a", 1), leaf("a.b", 1), leaf(".", 1), node("a", nil, leaf("b", 1)), {Ids: tooMany}, spread, more, empty, deeper,
		root(leaf("b", 1), leaf("a", 2)), root(leaf("a", 1), leaf("a", 2)), root(leaf("a", 1), leaf("b", 2), leaf("b", 3)), root(leaf("a", 1), leaf("c", 2), leaf("b", 3)), root(leaf("aa", 1), leaf("a", 2)), root(leaf("9", 1), leaf("10", 2)),
		root(node("a", nil, leaf("b", 1), leaf("a", 2))), root(node("a", []int{3}, leaf("b", 1), leaf("b", 2))), root(leaf("a", 1), node("b", nil, leaf("z", 2), leaf("y", 3))),
		root(leaf("a")), root(leaf("a", 1), leaf("b")), root(leaf("a"), leaf("b", 1)), root(chain("a b")), root(node("a", []int{1}, leaf("b"))), root(chain("a b c d e f")), root(node("a", []int{}, []impl.Node{}...)), node("", []int{1}, leaf("a")),
		root(leaf("a", 0)), root(leaf("a", -1)), root(leaf("a", 1000000000001)), root(leaf("a", 0, 1)), root(leaf("a", 1, 1000000000001)), root(leaf("a", -9223372036854775808)), root(leaf("a", 9223372036854775807)), {Ids: []int{0}}, {Ids: []int{1000000000001}}, root(chain("a b", 0)),
		root(leaf("a", 2, 1)), root(leaf("a", 1, 1)), root(leaf("a", 1, 3, 2)), root(leaf("a", 1, 2, 2)), {Ids: []int{2, 1}}, {Ids: []int{1, 1}}, root(chain("a b", 5, 4)),
		root(leaf("a", 1), leaf("b", 1)), root(node("a", []int{1}, leaf("b", 1))), node("", []int{1}, leaf("a", 1)), node("", []int{1}, chain("a b c", 1)), root(chain("a b c", 1, 5), chain("b b c", 5, 9)), root(node("a", nil, leaf("a", 2), leaf("b", 2))),
		root(leaf("a", tooMany...)), node("", tooMany[:16], leaf("a", 17)), node("", tooMany[1:], leaf("a", 1)), root(leaf("a", tooMany[:9]...), leaf("b", tooMany[9:]...)),
		root(chain("a b c d e f g", 1)), root(node("a", []int{1}, chain("b c d e f g", 2))), root(chain("a a a a a a a a", 1)), root(leaf("a", 1), chain("b a a a a a a", 2)),
	}
	for _, label := range []string{"", ".", "a.", ".a", "a.b", "a..b", "a.b.c", "A", "aB", " ", "a ", "é", "\x80", "\x00", "*", "!a", "a/b", "1.2.3.4", a, strings.Repeat("a", impl.MaxText+1)} {
		list = append(list, root(leaf(label, 1)), root(node("b", nil, leaf(label, 1))), root(node(label, nil, leaf("b", 1))))
	}
	return list
}

func TestP1ValidTries(t *testing.T) {
	for _, n := range validTries() {
		checkTrie(t, n, true)
	}
}

func TestP1InvalidTries(t *testing.T) {
	for _, n := range invalidTries() {
		checkTrie(t, n, false)
	}
}

// The full trie has 97 nodes, and a node more needs another rule to be broken.
func TestP1TriesOfMaxNodes(t *testing.T) {
	n := fullDomains().trie()
	if count, code := impl.TrieNodes(n); count != 96 || code != 0 {
		t.Errorf("TrieNodes of the full trie = %d, %d, want 96", count, code)
	}
	for _, ids := range [][]int{nil, {17}, {1}} {
		for place := range 17 {
			more := fullDomains().trie()
			more.Kids = slices.Insert(more.Kids, place, leaf("x0", ids...))
			slices.SortFunc(more.Kids, func(a, b impl.Node) int { return strings.Compare(a.Label, b.Label) })
			checkTrie(t, more, false)
		}
	}
}

// A label of the limit counts alone, since no rule limits the length of a path.
func TestP1TriesOfLongPaths(t *testing.T) {
	a := strings.Repeat("a", 40)
	checkTrie(t, root(chain(strings.Join([]string{a, a, a, a, a, a}, " "), 1)), true)
	checkTrie(t, root(chain(strings.Join([]string{a, a, a, a, a, a + "a"}, " "), 1)), false)
}

// changeOneNode changes what one random node has, and not always for the worse.
func changeOneNode(n *impl.Node, source *rand.Rand) {
	for len(n.Kids) > 0 && source.Intn(3) > 0 {
		n = &n.Kids[source.Intn(len(n.Kids))]
	}
	switch source.Intn(8) {
	case 0:
		n.Label = []string{"", "a", "b", "x.y", "A", "c"}[source.Intn(6)]
	case 1:
		n.Ids = append(n.Ids, []int{0, 1, 5, 30, 1000000000000, 1000000000001}[source.Intn(6)])
	case 2:
		n.Ids = nil
	case 3:
		n.Kids = nil
	case 4:
		n.Kids = append(n.Kids, leaf([]string{"a", "zz", ""}[source.Intn(3)], 1+source.Intn(40)))
	case 5:
		slices.Reverse(n.Kids)
	case 6:
		slices.Reverse(n.Ids)
	case 7:
		n.Kids = append(n.Kids, node("zzz", nil, chain("a b c", 50+source.Intn(9))))
	}
}

func randomDomains(source *rand.Rand) domainIds {
	labels := []string{"a", "b", "ck", "1", "-"}
	d := domainIds{}
	for _, id := range source.Perm(20)[:source.Intn(17)] {
		var parts []string
		for range source.Intn(7) {
			parts = append(parts, labels[source.Intn(len(labels))])
		}
		domain := strings.Join(parts, ".")
		d[domain] = append(d[domain], 1+id*id*3)
	}
	return d
}

func TestP1TriesAgainstRules(t *testing.T) {
	source := rand.New(rand.NewSource(20))
	valid := 0
	for range 20000 {
		n := randomDomains(source).trie()
		checkTrie(t, n, true)
		for range 1 + source.Intn(2) {
			changeOneNode(&n, source)
		}
		want := trieByRules(n)
		checkTrie(t, n, want)
		if want {
			valid++
		}
	}
	if valid < 3000 || valid > 17000 {
		t.Errorf("%d of 20000 changed tries are valid, which is too uneven", valid)
	}
}

// endless is a trie that is its own Kid, so that each walk has to give up.
func endless(ids ...int) impl.Node {
	kids := make([]impl.Node, 1)
	kids[0] = impl.Node{Label: "a", Ids: ids, Kids: kids}
	return impl.Node{Kids: kids}
}

// branching is a trie of few nodes in memory, each of which is in more places than can be visited.
func branching(depth, width int, ids ...int) impl.Node {
	n := impl.Node{Ids: ids}
	for range depth {
		kids := make([]impl.Node, width)
		for i := range kids {
			kids[i] = n
			kids[i].Label = "x" + strconv.Itoa(1000000+i)
		}
		n = impl.Node{Kids: kids}
	}
	return n
}

func manyIds(count int) []int {
	ids := make([]int, count)
	for i := range ids {
		ids[i] = i + 1
	}
	return ids
}

// endlessTries are all invalid, and too large for trieByRules.
func endlessTries() []impl.Node {
	selfKid := make([]impl.Node, 2)
	selfKid[0], selfKid[1] = impl.Node{Label: "a", Kids: selfKid}, impl.Node{Label: "b", Ids: []int{1}, Kids: selfKid}
	deep := strings.Repeat("a ", 100000)
	return []impl.Node{
		endless(), endless(1), endless(1, 2), {Kids: selfKid}, root(chain(deep, 1)), root(chain(deep)), root(node("a", nil, chain(deep, 1), leaf("b", 2))),
		branching(6, 2000), branching(6, 2000, 1), branching(5, 16, 1), branching(40, 2), branching(40, 2, 1), branching(6, 16, manyIds(16)...), branching(1, 1000000, 1), branching(1, 1, manyIds(1000000)...), {Ids: manyIds(1000000)},
		branching(2, 100000),
	}
}

func TestP1TriesWithoutEnd(t *testing.T) {
	for i, n := range endlessTries() {
		if impl.TrieOK(n) || impl.SameTrie(n, n) || impl.SameTrie(n, impl.Node{}) || impl.SameTrie(impl.Node{}, n) {
			t.Errorf("TrieOK or SameTrie is true for endless trie %d", i)
		}
		checkFailingTrie(t, "endless trie "+strconv.Itoa(i), n, "a.a.a.a.a.a", 1, impl.ErrBad)
	}
}

// checkFailingTrie checks that every function that takes the trie and the host fails with the code.
func checkFailingTrie(t *testing.T, what string, n impl.Node, host string, id, want int) {
	t.Helper()
	added, addCode := impl.TrieAdd(n, host, id)
	removed, removeCode := impl.TrieRemove(n, host, id)
	along, alongCode := impl.TrieAlong(n, host)
	if addCode != want || removeCode != want || alongCode != want {
		t.Errorf("%s with the host %s and the Id %d: TrieAdd, TrieRemove and TrieAlong = %d, %d, %d, want %d", what, shown(host), id, addCode, removeCode, alongCode, want)
	}
	if shownTrie(added) != `""()` || shownTrie(removed) != `""()` || len(along) != 0 {
		t.Errorf("%s with the host %s and the Id %d: a result beside the code %d", what, shown(host), id, want)
	}
	all, allCode := impl.TrieAll(n)
	count, countCode := impl.TrieNodes(n)
	if impl.TrieOK(n) {
		return
	}
	if len(all) != 0 || count != 0 || allCode != impl.ErrBad || countCode != impl.ErrBad {
		t.Errorf("%s: TrieAll = %v, %d, TrieNodes = %d, %d, want ErrBad", what, all, allCode, count, countCode)
	}
}

// noHosts are no hosts, of a length that is allowed.
func noHosts() []string {
	return []string{"", ".", "a.", ".a", "a..b", "A", "a.B", "a b", "\x80", "é", "g.f.e.d.c.b.a", strings.Repeat("a", 41), strings.Repeat("a", impl.MaxText), strings.Repeat(".", impl.MaxText)}
}

func TestP1FunctionsOfInvalidTries(t *testing.T) {
	for _, n := range invalidTries() {
		for _, host := range append(noHosts(), "a", "b.a", "1.2.3.4", "f.e.d.c.b.a") {
			for _, id := range []int{1, 2, 99, 0, -1, 1000000000001} {
				checkFailingTrie(t, shown(shownTrie(n)), n, host, id, impl.ErrBad)
			}
		}
	}
}

func TestP1FunctionsOfNoHosts(t *testing.T) {
	for _, n := range validTries() {
		for _, host := range noHosts() {
			for _, id := range []int{1, 99, 0, -1, 1000000000001} {
				checkFailingTrie(t, shownTrie(n), n, host, id, impl.ErrForm)
			}
		}
	}
}

func TestP1FunctionsOfHostsOfMoreThanMaxTextBytes(t *testing.T) {
	for _, n := range slices.Concat(validTries(), invalidTries(), endlessTries()[:4]) {
		for _, host := range []string{strings.Repeat("a", impl.MaxText+1), strings.Repeat(".", impl.MaxText+1), strings.Repeat("a", 2*impl.MaxText)} {
			for _, id := range []int{1, 0} {
				checkFailingTrie(t, "a trie", n, host, id, impl.ErrLong)
			}
		}
	}
}

func TestP1SameTriesOfOneDifference(t *testing.T) {
	list := append(validTries()[2:],
		trieOf("a.example 2 3", "b.a.example 5", "example 10", "x.ck 1"), trieOf("a.example 2 3", "c.a.example 5", "example 9", "x.ck 1"), trieOf("a.example 2 3 4", "b.a.example 5", "example 9", "x.ck 1"),
		trieOf("a.example 2", "b.a.example 5", "example 9", "x.ck 1"), trieOf("a.example 2 3", "b.a.example 5", "example 9", "x.ck 1", "ck 4"), trieOf("a.example 2 3", "b.a.example 5", "example 9", "y.ck 1"),
		trieOf("a.example 2 3", "b.a.example 5", "x.ck 1"), trieOf("a.example 2 3", "example 9", "x.ck 1"), trieOf("a.example 2 3 5", "example 9", "x.ck 1"), trieOf("a.example 2 3", "b.a.example 5", "example 9", "x.ck 1", ". 4"), trieOf(". 9"), impl.Node{},
	)
	for i, a := range list {
		for k, b := range list {
			if got, want := impl.SameTrie(a, b), i == k; got != want {
				t.Errorf("SameTrie(%s, %s) = %v, want %v", shownTrie(a), shownTrie(b), got, want)
			}
		}
	}
}

func TestP1SameTriesOfEmptySlices(t *testing.T) {
	for _, v := range [][2]impl.Node{
		{{}, {Ids: []int{}, Kids: []impl.Node{}}}, {root(leaf("a", 1)), {Ids: []int{}, Kids: []impl.Node{{Label: "a", Ids: []int{1}, Kids: []impl.Node{}}}}}, {root(chain("a b", 1)), root(node("a", []int{}, leaf("b", 1)))},
	} {
		if !impl.SameTrie(v[0], v[1]) || !impl.SameTrie(v[1], v[0]) {
			t.Errorf("SameTrie(%s, %s) counts nil and empty slices as different", shownTrie(v[0]), shownTrie(v[1]))
		}
	}
}

func TestP1SameTriesOfInvalidOnes(t *testing.T) {
	for _, invalid := range invalidTries() {
		for _, n := range append(validTries(), invalidTries()[:10]...) {
			if impl.SameTrie(invalid, n) || impl.SameTrie(n, invalid) {
				t.Errorf("SameTrie is true for the invalid trie %s and %s", shown(shownTrie(invalid)), shown(shownTrie(n)))
			}
		}
	}
}

func TestP1SameTriesAgainstTexts(t *testing.T) {
	source := rand.New(rand.NewSource(21))
	same := 0
	for range 20000 {
		d := randomDomains(source)
		a, b := d.trie(), d.trie()
		changeOneNode(&b, source)
		want := trieByRules(b) && shownTrie(a) == shownTrie(b)
		if impl.SameTrie(a, b) != want || impl.SameTrie(b, a) != want {
			t.Errorf("SameTrie(%s, %s) is not %v", shownTrie(a), shownTrie(b), want)
		}
		if want {
			same++
		}
	}
	if same < 2000 || same > 18000 {
		t.Errorf("%d of 20000 changed tries are the same, which is too uneven", same)
	}
}
