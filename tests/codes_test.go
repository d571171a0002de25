package tests

import (
	"math"
	"strings"
	"testing"

	"loop.example/g00803/impl"
)

var codeTable = []struct {
	code, constant int
	word           string
}{
	{0, impl.OK, "ok"},
	{1, impl.ErrBad, "bad"},
	{2, impl.ErrLong, "long"},
	{3, impl.ErrForm, "form"},
	{4, impl.ErrRange, "range"},
	{5, impl.ErrNone, "none"},
	{6, impl.ErrMany, "many"},
	{7, impl.ErrFull, "full"},
	{8, impl.ErrSize, "size"},
	{9, impl.ErrKind, "kind"},
	{10, impl.ErrDate, "date"},
	{11, impl.ErrSuffix, "suffix"},
	{12, impl.ErrDomain, "domain"},
	{13, impl.ErrSecure, "secure"},
	{14, impl.ErrHttp, "http"},
	{15, impl.ErrSite, "site"},
	{16, impl.ErrPrefix, "prefix"},
	{17, impl.ErrOrder, "order"},
	{18, impl.ErrSame, "same"},
}

var unknownCodes = []int{-1, -2, 19, 20, 100, 256, 1 << 32, math.MinInt, math.MaxInt}

func TestP1Limits(t *testing.T) {
	if impl.MaxText != 65536 || impl.MaxList != 4096 || impl.MaxName != 12 || impl.MaxDecimal != 1000000000000 {
		t.Error("limits", impl.MaxText, impl.MaxList, impl.MaxName, impl.MaxDecimal)
	}
	if impl.MaxHost != 40 || impl.MaxLabels != 6 || impl.MaxPath != 60 {
		t.Error("limits of hosts and paths", impl.MaxHost, impl.MaxLabels, impl.MaxPath)
	}
}

func TestP1EveryCodeAndItsWord(t *testing.T) {
	for _, v := range codeTable {
		if v.constant != v.code {
			t.Errorf("constant for %q is %d, want %d", v.word, v.constant, v.code)
		}
		if got := impl.CodeWord(v.code); got != v.word {
			t.Errorf("CodeWord(%d) = %q, want %q", v.code, got, v.word)
		}
		if got := impl.CodeOf(v.word); got != v.code {
			t.Errorf("CodeOf(%q) = %d, want %d", v.word, got, v.code)
		}
	}
}

func TestP1UnknownCodesAndWords(t *testing.T) {
	for _, code := range unknownCodes {
		if got := impl.CodeWord(code); got != "" {
			t.Errorf("CodeWord(%d) = %q, want the empty string", code, got)
		}
	}
	words := []string{"", " ", "o", "OK", "Ok", " ok", "ok ", "ok\x00", "okok", "0", "1", "-1", "error", "Bad", "ErrBad", "samesame", "\xff", "oк"}
	for _, v := range codeTable {
		words = append(words, v.word[:len(v.word)-1], v.word+" ", strings.ToUpper(v.word), v.word+strings.Repeat("k", impl.MaxText))
	}
	words = append(words, strings.Repeat("a", impl.MaxText), strings.Repeat("a", impl.MaxText+1))
	for _, word := range words {
		if got := impl.CodeOf(word); got != -1 {
			t.Errorf("CodeOf(%s) = %d, want -1", shown(word), got)
		}
	}
}

func nameByBytes(t string) bool {
	if len(t) < 1 || len(t) > 12 {
		return false
	}
	for i := 0; i < len(t); i++ {
		letter := isLetter(t[i]) || t[i] == '_'
		if !letter && (i == 0 || !isDigit(t[i])) {
			return false
		}
	}
	return true
}

func TestP1NameCases(t *testing.T) {
	for _, v := range []struct {
		t    string
		want bool
	}{
		{"", false}, {"a", true}, {"Z", true}, {"_", true}, {"0", false}, {"9a", false}, {"a9", true}, {"_9", true},
		{"abcdefghijkl", true}, {"abcdefghijklm", false}, {"_23456789012", true}, {"_234567890123", false},
		{"a b", false}, {" a", false}, {"a ", false}, {"a\t", false}, {"a-b", false}, {"a\x7f", false}, {"a\x00", false},
		{"\x80", false}, {"a\xff", false}, {"é", false}, {"aé", false}, {"\u212a", false}, {"ａ", false},
		{strings.Repeat("a", impl.MaxText), false}, {strings.Repeat("a", impl.MaxText+1), false},
	} {
		if got := impl.NameOK(v.t); got != v.want {
			t.Errorf("NameOK(%s) = %v, want %v", shown(v.t), got, v.want)
		}
	}
}

func TestP1NamesAgainstBytes(t *testing.T) {
	for _, s := range manyStrings() {
		if got, want := impl.NameOK(s), nameByBytes(s); got != want {
			t.Errorf("NameOK(%s) = %v, want %v", shown(s), got, want)
		}
	}
}
