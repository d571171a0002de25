package tests

import (
	"math/rand"
	"slices"
	"strings"
	"testing"

	"loop.example/g00803/impl"
)

func defaultByBytes(t string) string {
	if t == "" || t[0] != '/' {
		return "/"
	}
	last := 0
	for i := 0; i < len(t); i++ {
		if t[i] == '/' {
			last = i
		}
	}
	if last == 0 {
		return "/"
	}
	return t[:last]
}

// matchByPrefixes tries each prefix of the path that ends at a slash.
func matchByPrefixes(path, cookie string) bool {
	for n := 1; n < len(path); n++ {
		if (path[n-1] == '/' || path[n] == '/') && path[:n] == cookie {
			return true
		}
	}
	return path == cookie
}

func checkPaths(t *testing.T, path, cookie string) {
	t.Helper()
	if got, want := impl.PathMatch(path, cookie), matchByPrefixes(path, cookie); got != want {
		t.Errorf("PathMatch(%s, %s) = %v, want %v", shown(path), shown(cookie), got, want)
	}
}

func checkDefault(t *testing.T, path string) {
	t.Helper()
	if got, want := impl.DefaultPath(path), defaultByBytes(path); got != want {
		t.Errorf("DefaultPath(%s) = %s, want %s", shown(path), shown(got), shown(want))
	}
}

// shortPaths returns all strings of at most four bytes of a small alphabet.
func shortPaths() []string {
	list := []string{"", "/", "a", "\x80", " "}
	for _, a := range list[1:] {
		for _, b := range list[1:] {
			list = append(list, a+b)
		}
	}
	return append(list, wordsOver("/a\x80 ", 4)...)
}

func randomPaths(count int) []string {
	source := rand.New(rand.NewSource(3))
	parts := []string{"a", "b", "docs", "", "A", "é", "\xff", ".", "..", "x y"}
	var list []string
	for range count {
		var b strings.Builder
		for range source.Intn(8) {
			b.WriteString("/" + parts[source.Intn(len(parts))])
		}
		list = append(list, b.String())
	}
	return list
}

func TestP4DefaultPathCases(t *testing.T) {
	for _, v := range []struct{ t, want string }{
		{"", "/"}, {"a", "/"}, {"a/b", "/"}, {"a/b/c", "/"}, {" /a/b", "/"}, {"\x80/a/b", "/"}, {"a/", "/"}, {"\x00", "/"},
		{"/", "/"}, {"/a", "/"}, {"/abc", "/"}, {"/ ", "/"}, {"/\xff", "/"},
		{"/a/", "/a"}, {"/a/b", "/a"}, {"/a/b/", "/a/b"}, {"/a/b/c", "/a/b"}, {"/A/b.html", "/A"}, {"/é/\xff/", "/é/\xff"},
		{"//", "/"}, {"///", "//"}, {"//a", "/"}, {"//a/", "//a"}, {"/a//", "/a/"}, {"/a//b", "/a/"}, {"/a///b", "/a//"},
		{"/a?b/c", "/a?b"}, {"/a;b/c", "/a;b"}, {"/ /", "/ "}, {"/\x00/", "/\x00"},
	} {
		if got := impl.DefaultPath(v.t); got != v.want {
			t.Errorf("DefaultPath(%s) = %s, want %s", shown(v.t), shown(got), shown(v.want))
		}
	}
}

func TestP4PathMatchCases(t *testing.T) {
	for _, v := range []struct {
		path, cookie string
		want         bool
	}{
		{"/", "/", true}, {"/a", "/a", true}, {"/a/", "/a/", true}, {"/a/b", "/a/b", true}, {"", "", true}, {"a", "a", true}, {"\xff", "\xff", true},
		{"/a", "/", true}, {"/a/b", "/", true}, {"//", "/", true}, {"/a/b", "/a", true}, {"/a/b", "/a/", true}, {"/a/", "/a", true}, {"/a//b", "/a", true}, {"/a//b", "/a/", true}, {"/a//b", "/a//", true}, {"/a/b/c", "/a/b", true},
		{"/ab", "/a", false}, {"/a.b", "/a", false}, {"/a b", "/a", false}, {"/a\x00", "/a", false}, {"/a\x80/", "/a", false}, {"/abc/d", "/ab", false}, {"/a/bc", "/a/b", false},
		{"/a", "/a/", false}, {"/", "/a", false}, {"/a", "/b", false}, {"/a/b", "/b", false}, {"/a/b", "/a/b/", false}, {"/a/b", "/a/b/c", false}, {"/a/b", "b", false}, {"/a/b", "a", false}, {"/A/b", "/a", false}, {"/a", "//", false},
		{"/a", "", false}, {"/", "", false}, {"a", "", false}, {"", "/", false}, {"", "a", false},
		{"a/b", "a", true}, {"a/b", "a/", true}, {"ab", "a", false}, {"a", "/", false}, {"\xc3/\xa9", "\xc3", true}, {"é", "\xc3", false},
	} {
		if got := impl.PathMatch(v.path, v.cookie); got != v.want {
			t.Errorf("PathMatch(%s, %s) = %v, want %v", shown(v.path), shown(v.cookie), got, v.want)
		}
	}
}

func TestP4PathMatchAgainstPrefixes(t *testing.T) {
	short := shortPaths()
	for _, path := range short {
		for _, cookie := range short {
			checkPaths(t, path, cookie)
		}
	}
	for _, path := range randomPaths(500) {
		for n := range len(path) + 1 {
			checkPaths(t, path, path[:n])
			checkPaths(t, path, path[n:])
			checkPaths(t, path[:n], path)
		}
	}
}

func TestP4APathMatchesItsDefaultPath(t *testing.T) {
	for _, path := range slices.Concat(manyStrings(), shortPaths(), randomPaths(3000)) {
		checkDefault(t, path)
		if strings.HasPrefix(path, "/") && !impl.PathMatch(path, impl.DefaultPath(path)) {
			t.Errorf("the path %s does not match its default path %s", shown(path), shown(impl.DefaultPath(path)))
		}
	}
}

func longPaths(length int) []string {
	list := []string{strings.Repeat("a", length), strings.Repeat("/", length), strings.Repeat("a/", length/2) + strings.Repeat("/", length%2)}
	inner := strings.Repeat("a", length-2)
	return append(list, "/"+inner+"/", "/"+inner+"b", inner+"/b", "//"+inner, "/b/"+inner[1:])
}

func TestP4PathsOfMaxTextBytes(t *testing.T) {
	list := longPaths(impl.MaxText)
	for _, path := range list {
		checkDefault(t, path)
		if strings.HasPrefix(path, "/") && !impl.PathMatch(path, impl.DefaultPath(path)) {
			t.Errorf("the path %s does not match its default path", shown(path))
		}
		for _, cookie := range append(list, "", "/", "/b", "a", path[:1], path[:impl.MaxText-1], path[:impl.MaxText-2]) {
			checkPaths(t, strings.Clone(path), cookie)
			checkPaths(t, cookie, path)
		}
	}
}

func TestP1PathsOfMoreThanMaxTextBytes(t *testing.T) {
	for _, path := range append(longPaths(impl.MaxText+1), longPaths(2*impl.MaxText)...) {
		if got := impl.DefaultPath(path); got != "" {
			t.Errorf("DefaultPath(%s) = %s, want the empty string", shown(path), shown(got))
		}
		for _, other := range []string{path, "", "/", "/b", "a", "a/", path[:1], path[:impl.MaxText], path[:impl.MaxText-1]} {
			if impl.PathMatch(path, other) || impl.PathMatch(other, path) {
				t.Errorf("PathMatch is true for %s and %s", shown(path), shown(other))
			}
		}
	}
}
