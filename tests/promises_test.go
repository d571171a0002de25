package tests

import (
	"slices"
	"strings"
	"sync"
	"testing"
	"unsafe"

	"loop.example/g00803/impl"
)

type octetResults struct {
	name, control, token, split bool
	fold, trim, before, behind  string
	word                        string
	codeOf, number, code        int
}

func callAll(s string, c byte, code int) octetResults {
	var r octetResults
	r.name, r.control, r.token = impl.NameOK(s), impl.HasControl(s), impl.IsToken(s)
	r.fold, r.trim = impl.Fold(s), impl.Trim(s)
	r.before, r.behind, r.split = impl.SplitAt(s, c)
	r.number, r.code = impl.Decimal(s)
	r.codeOf, r.word = impl.CodeOf(s), impl.CodeWord(code)
	return r
}

// promiseStrings holds ordinary strings, and those at and beyond the limits.
func promiseStrings() []string {
	list := append(randomStrings(2000), wordsOver(" \tZ-9\xc3", 4)...)
	for _, v := range codeTable {
		list = append(list, v.word)
	}
	for _, n := range []int{impl.MaxName, impl.MaxName + 1, impl.MaxText, impl.MaxText + 1} {
		for _, t := range []string{"A", "9", " ", "=", "\x7f", "\xff"} {
			list = append(list, strings.Repeat(t, n))
		}
	}
	return append(list, "", "-", "-0", "-1000000000001", " a = b ", "\tA\t")
}

func TestP1EqualArgumentsYieldEqualResults(t *testing.T) {
	list := promiseStrings()
	first := make([]octetResults, len(list))
	for i, s := range list {
		first[i] = callAll(s, '=', i-100)
	}
	for i, s := range slices.Backward(list) {
		if again := callAll(strings.Clone(s), '=', i-100); again != first[i] {
			t.Errorf("other results for %s at a later call", shown(s))
		}
	}
	var group sync.WaitGroup
	for range 4 {
		group.Go(func() {
			for i, s := range list {
				if callAll(s, '=', i-100) != first[i] {
					t.Errorf("other results for %s in concurrent calls", shown(s))
				}
			}
		})
	}
	group.Wait()
}

func TestP1ArgumentsAreUnchanged(t *testing.T) {
	for _, s := range promiseStrings() {
		given := strings.Clone(s)
		callAll(given, '=', 0)
		if given != s {
			t.Errorf("the argument %s became %s", shown(s), shown(given))
		}
	}
}

func sharesMemory(a, b string) bool {
	if a == "" || b == "" {
		return false
	}
	start, other := uintptr(unsafe.Pointer(unsafe.StringData(a))), uintptr(unsafe.Pointer(unsafe.StringData(b)))
	return start < other+uintptr(len(b)) && other < start+uintptr(len(a))
}

func TestP1ResultsAreNewMemory(t *testing.T) {
	for _, s := range []string{"plain", "  blanks\t", "key=value", "=", "UPPER case=", strings.Repeat("a", impl.MaxText)} {
		given := strings.Clone(s)
		r := callAll(given, '=', 0)
		for _, result := range []string{r.fold, r.trim, r.before, r.behind} {
			if sharesMemory(given, result) {
				t.Errorf("the result %s shares memory with the argument %s", shown(result), shown(s))
			}
		}
	}
}

func TestP2FoldAndTrimAreIdempotent(t *testing.T) {
	for _, s := range append(promiseStrings(), manyStrings()...) {
		if once := impl.Fold(s); impl.Fold(once) != once {
			t.Errorf("Fold(Fold(%s)) = %s, want %s", shown(s), shown(impl.Fold(once)), shown(once))
		}
		if once := impl.Trim(s); impl.Trim(once) != once {
			t.Errorf("Trim(Trim(%s)) = %s, want %s", shown(s), shown(impl.Trim(once)), shown(once))
		}
	}
}

func TestP2FoldAndTrimKeepTheRest(t *testing.T) {
	for _, s := range promiseStrings() {
		if len(s) > impl.MaxText {
			continue
		}
		if !strings.EqualFold(impl.Fold(s), s) || len(impl.Fold(s)) != len(s) {
			t.Errorf("Fold(%s) = %s differs by more than case", shown(s), shown(impl.Fold(s)))
		}
		left, right, _ := strings.Cut(s, impl.Trim(s))
		if strings.Trim(left+right, " \t") != "" || left+impl.Trim(s)+right != s {
			t.Errorf("Trim(%s) = %s removes more than blanks at the ends", shown(s), shown(impl.Trim(s)))
		}
	}
}

func TestP2PartsMakeUpTheString(t *testing.T) {
	for _, s := range append(promiseStrings(), manyStrings()...) {
		if len(s) > impl.MaxText {
			continue
		}
		for _, c := range []byte("=; 9\x00\x7f\x80\xc3\xff") {
			a, b, ok := impl.SplitAt(s, c)
			if strings.IndexByte(a, c) >= 0 || ok != (strings.IndexByte(s, c) >= 0) {
				t.Errorf("SplitAt(%s, %d) does not split at the first such byte", shown(s), c)
			}
			whole := a
			if ok {
				whole = a + string([]byte{c}) + b
			}
			if whole != s || !ok && b != "" {
				t.Errorf("SplitAt(%s, %d) = %s, %s, %v does not make up the string", shown(s), c, shown(a), shown(b), ok)
			}
		}
	}
}
