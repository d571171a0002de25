package tests

import (
	"math/rand"
	"strconv"
	"strings"
)

// shown quotes a string for a message and keeps long ones short.
func shown(t string) string {
	if len(t) <= 80 {
		return strconv.Quote(t)
	}
	return strconv.Quote(t[:40]) + "... of " + strconv.Itoa(len(t)) + " bytes"
}

func isDigit(c byte) bool { return c >= '0' && c <= '9' }

func isUpper(c byte) bool { return c >= 'A' && c <= 'Z' }

func isLetter(c byte) bool { return isUpper(c) || c >= 'a' && c <= 'z' }

// manyStrings returns the strings of at most two bytes, all strings of three to
// five bytes of a small alphabet, and longer ones of random bytes.
func manyStrings() []string {
	list := []string{""}
	for a := range 256 {
		list = append(list, string([]byte{byte(a)}))
		for b := range 256 {
			list = append(list, string([]byte{byte(a), byte(b)}))
		}
	}
	list = append(list, wordsOver(" \tA_9-=\x7f\xc3\xa9", 5)...)
	return append(list, randomStrings(3000)...)
}

func wordsOver(alphabet string, length int) []string {
	var list []string
	last := []string{""}
	for n := 1; n <= length; n++ {
		var next []string
		for _, t := range last {
			for i := 0; i < len(alphabet); i++ {
				next = append(next, t+alphabet[i:i+1])
			}
		}
		if n >= 3 {
			list = append(list, next...)
		}
		last = next
	}
	return list
}

// randomStrings is the same list at each call, since the source has a fixed seed.
func randomStrings(count int) []string {
	source := rand.New(rand.NewSource(1))
	alphabets := []string{"0123456789", "-0123456789", "abcXYZ_09", " \t;=aZ", "aAé\xff\x80\x00\x1f\x7f~|^`", "!#$%&'*+-.^_|~az09"}
	var list []string
	for range count {
		var b strings.Builder
		alphabet := alphabets[source.Intn(len(alphabets))]
		for range source.Intn(40) {
			b.WriteByte(alphabet[source.Intn(len(alphabet))])
		}
		list = append(list, b.String())
	}
	return list
}
