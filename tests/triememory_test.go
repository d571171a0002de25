package tests

import (
	"slices"
	"strings"
	"testing"
	"unsafe"

	"loop.example/g00803/impl"
)

// span is the memory of a slice with its capacity, or of a string.
type span struct{ from, to uintptr }

func (a span) overlaps(b span) bool { return a.from < b.to && b.from < a.to }

func spanOf[T any](list []T) span {
	from := uintptr(unsafe.Pointer(unsafe.SliceData(list)))
	var one T
	return span{from, from + uintptr(cap(list))*unsafe.Sizeof(one)}
}

// spansOf returns the memory of each slice of the trie.
func spansOf(n impl.Node) []span {
	list := []span{spanOf(n.Ids), spanOf(n.Kids)}
	for _, kid := range n.Kids {
		list = append(list, spansOf(kid)...)
	}
	return slices.DeleteFunc(list, func(a span) bool { return a.from == a.to })
}

func labelSpans(n impl.Node) []span {
	from := uintptr(unsafe.Pointer(unsafe.StringData(n.Label)))
	list := []span{{from, from + uintptr(len(n.Label))}}
	for _, kid := range n.Kids {
		list = append(list, labelSpans(kid)...)
	}
	return slices.DeleteFunc(list, func(a span) bool { return a.from == a.to })
}

func anyOverlap(a, b []span) bool {
	for _, x := range a {
		if slices.ContainsFunc(b, x.overlaps) {
			return true
		}
	}
	return false
}

// withSpare is the same trie with labels of its own, and with an Id and a node behind the end of each slice.
func withSpare(n impl.Node) impl.Node {
	ids := append(slices.Clone(n.Ids), 77, 3, 88)
	var kids []impl.Node
	for _, kid := range n.Kids {
		kids = append(kids, withSpare(kid))
	}
	kids = append(kids, leaf("spare", 99), leaf("a", 1))
	return impl.Node{Label: strings.Clone(n.Label), Ids: ids[:len(n.Ids)], Kids: kids[:len(n.Kids)]}
}

// shownMemory also shows what is behind the end of each slice.
func shownMemory(n impl.Node) string {
	n.Ids, n.Kids = n.Ids[:cap(n.Ids)], n.Kids[:cap(n.Kids)]
	text := shownTrie(leaf(n.Label, n.Ids...))
	for _, kid := range n.Kids {
		text += shownMemory(kid)
	}
	return "<" + text + ">"
}

// clearTrie overwrites all that can be reached from the trie.
func clearTrie(n impl.Node) {
	for _, kid := range n.Kids {
		clearTrie(kid)
	}
	clear(n.Ids[:cap(n.Ids)])
	clear(n.Kids[:cap(n.Kids)])
}

type trieResults struct {
	valid, same                                               bool
	added, removed, along, all                                string
	addCode, removeCode, alongCode, allCode, count, countCode int
}

func callTrieFunctions(n impl.Node, host string, id int) trieResults {
	var r trieResults
	r.valid, r.same = impl.TrieOK(n), impl.SameTrie(n, n)
	added, code := impl.TrieAdd(n, host, id)
	r.added, r.addCode = shownTrie(added), code
	removed, code := impl.TrieRemove(n, host, id)
	r.removed, r.removeCode = shownTrie(removed), code
	along, code := impl.TrieAlong(n, host)
	r.along, r.alongCode = shownTrie(leaf("", along...)), code
	all, code := impl.TrieAll(n)
	r.all, r.allCode = shownTrie(leaf("", all...)), code
	r.count, r.countCode = impl.TrieNodes(n)
	return r
}

func promiseTries() []impl.Node {
	return slices.Concat(validTries(), invalidTries()[:20], []impl.Node{trieOf("a 1", "b.a 2", "c.b.a 7", "a.example 4")})
}

// callTries takes the same tries in all calls, so that a call that changes one shows in the next.
func callTries() func(s string, i int) trieResults {
	tries := promiseTries()
	return func(s string, i int) trieResults {
		return callTrieFunctions(tries[i%len(tries)], s, 1+i%18)
	}
}

// promiseTrieHosts holds hosts that occur in promiseTries(), near misses, and strings at and beyond the limits.
func promiseTrieHosts() []string {
	var list []string
	for range 20 {
		list = append(list, "a", "b.a", "c.b.a", "f.e.d.c.b.a", "x1", "b.x3", "a.example", "x.ck", "zap", "", "A", strings.Repeat("a", impl.MaxText), strings.Repeat("a", impl.MaxText+1))
	}
	return append(list, nearHosts(200)...)
}

func TestP1TriesAreUnchanged(t *testing.T) {
	for _, n := range append(validTries(), invalidTries()...) {
		given := withSpare(n)
		before := shownMemory(given)
		for _, host := range []string{"a", "b.a", "c.b.a", "a.example", "x.ck", "f.e.d.c.b.a", "f.e.d.c.b.x16", "zap", "A"} {
			for _, id := range []int{1, 2, 3, 5, 99, 0} {
				callTrieFunctions(given, host, id)
				impl.SameTrie(given, n)
				impl.SameTrie(n, given)
			}
		}
		if after := shownMemory(given); after != before {
			t.Errorf("the trie and its spare capacity %s became %s", shown(before), shown(after))
		}
	}
}

// checkNewTrie checks that the result shares no memory with the argument, nor two of its slices with each other.
func checkNewTrie(t *testing.T, what string, given, result impl.Node) {
	t.Helper()
	spans := spansOf(result)
	if anyOverlap(spansOf(given), spans) || anyOverlap(labelSpans(given), labelSpans(result)) {
		t.Errorf("the result of %s of %s shares memory with the trie", what, shownTrie(given))
	}
	for i, a := range spans {
		if anyOverlap([]span{a}, spans[i+1:]) {
			t.Errorf("two slices of the result of %s of %s share memory", what, shownTrie(given))
		}
	}
}

func TestP1ResultsOfTriesAreNewMemory(t *testing.T) {
	for _, n := range append(validTries(), trieOf("a 1", "b.a 2", "c.b.a 7", "a.example 4")) {
		for _, host := range []string{"a", "b.a", "c.b.a", "a.example", "x.ck", "f.e.d.c.b.a", "f.e.d.c.b.x16", "zap"} {
			for _, id := range []int{1, 2, 3, 5, 99} {
				given, domain := withSpare(n), strings.Clone(host)
				added, _ := impl.TrieAdd(given, domain, id)
				removed, _ := impl.TrieRemove(given, domain, id)
				checkNewTrie(t, "TrieAdd", given, added)
				checkNewTrie(t, "TrieRemove", given, removed)
				if text := []span{labelSpans(leaf(domain))[0]}; anyOverlap(text, labelSpans(added)) || anyOverlap(text, labelSpans(removed)) {
					t.Errorf("TrieAdd or TrieRemove of %s shares memory with the domain %s", shownTrie(n), host)
				}
				along, _ := impl.TrieAlong(given, domain)
				all, _ := impl.TrieAll(given)
				if anyOverlap(spansOf(given), []span{spanOf(along), spanOf(all)}) {
					t.Errorf("TrieAlong or TrieAll of %s shares memory with the trie", shownTrie(n))
				}
			}
		}
	}
}

func TestP1ResultsOfTriesAreNewAtEachCall(t *testing.T) {
	for _, n := range validTries() {
		for _, host := range []string{"a", "b.a", "a.example", "x.ck", "f.e.d.c.b.x16"} {
			given := withSpare(n)
			want := callTrieFunctions(given, host, 1)
			added, _ := impl.TrieAdd(given, host, 1)
			removed, _ := impl.TrieRemove(given, host, 1)
			along, _ := impl.TrieAlong(given, host)
			all, _ := impl.TrieAll(given)
			for _, result := range []impl.Node{added, removed, {Ids: along}, {Ids: all}} {
				clearTrie(result)
			}
			if callTrieFunctions(given, host, 1) != want || shownTrie(given) != shownTrie(n) {
				t.Errorf("a change of the results for the trie %s and the host %s changes later ones", shownTrie(n), host)
			}
		}
	}
}

func TestP1TriesOfNilAndEmptySlices(t *testing.T) {
	for _, v := range [][2]impl.Node{
		{{}, {Ids: []int{}, Kids: []impl.Node{}}},
		{root(leaf("a", 1)), {Ids: []int{}, Kids: []impl.Node{{Label: "a", Ids: []int{1}, Kids: []impl.Node{}}}}},
		{root(chain("a b", 1)), node("", []int{}, node("a", []int{}, leaf("b", 1)))},
		{root(leaf("a")), root(node("a", []int{}, []impl.Node{}...))},
	} {
		for _, host := range []string{"a", "b.a", "c", ""} {
			for _, id := range []int{1, 2} {
				if callTrieFunctions(v[0], host, id) != callTrieFunctions(v[1], host, id) {
					t.Errorf("nil and empty slices in %s differ for the host %s and the Id %d", shownTrie(v[0]), host, id)
				}
			}
		}
	}
}
