package impl

import "strings"

const MaxDecimal = 1000000000000

// The order matters: the bytes of a token are those from classMark on, and the
// bytes of a name those from classDigit on.
const (
	classOther = iota
	classControl
	classBlank
	classMark
	classDigit
	classUnderscore
	classUpper
	classLower
)

// byteClasses holds the class of each byte below 128, in rows of 16.
var byteClasses = [128]uint8{
	1, 1, 1, 1, 1, 1, 1, 1, 1, 2, 1, 1, 1, 1, 1, 1,
	1, 1, 1, 1, 1, 1, 1, 1, 1, 1, 1, 1, 1, 1, 1, 1,
	2, 3, 0, 3, 3, 3, 3, 3, 0, 0, 3, 3, 0, 3, 3, 0,
	4, 4, 4, 4, 4, 4, 4, 4, 4, 4, 0, 0, 0, 0, 0, 0,
	0, 6, 6, 6, 6, 6, 6, 6, 6, 6, 6, 6, 6, 6, 6, 6,
	6, 6, 6, 6, 6, 6, 6, 6, 6, 6, 6, 0, 0, 0, 3, 5,
	0, 7, 7, 7, 7, 7, 7, 7, 7, 7, 7, 7, 7, 7, 7, 7,
	7, 7, 7, 7, 7, 7, 7, 7, 7, 7, 7, 0, 3, 0, 3, 1,
}

// classOf serves ranges over strings: whether bytes of 128 and above form a
// character or not, the range yields runes of 128 and above for them.
func classOf(r rune) uint8 {
	if r < 0 || int(r) >= len(byteClasses) {
		return classOther
	}
	return byteClasses[r]
}

func Fold(t string) string {
	if len(t) > MaxText {
		return ""
	}
	// A copy of the bytes, because runes would not preserve malformed UTF-8.
	folded := []byte(t)
	for i, r := range t {
		if classOf(r) == classUpper {
			folded[i] += 'a' - 'A'
		}
	}
	return string(folded)
}

func Trim(t string) string {
	if len(t) > MaxText {
		return ""
	}
	return strings.Clone(strings.Trim(t, " \t"))
}

func HasControl(t string) bool {
	if len(t) > MaxText {
		return false
	}
	for _, r := range t {
		if classOf(r) == classControl {
			return true
		}
	}
	return false
}

func IsToken(t string) bool {
	if t == "" || len(t) > MaxText {
		return false
	}
	for _, r := range t {
		if classOf(r) < classMark {
			return false
		}
	}
	return true
}

func Decimal(t string) (int, int) {
	if len(t) > MaxText {
		return 0, ErrLong
	}
	digits, negative := strings.CutPrefix(t, "-")
	if digits == "" {
		return 0, ErrForm
	}
	n := 0
	for _, r := range digits {
		if classOf(r) != classDigit {
			return 0, ErrForm
		}
		// Limited at each digit, so that no number of digits overflows.
		n = min(10*n+int(r-'0'), MaxDecimal)
	}
	if negative {
		n = -n
	}
	return n, OK
}

func SplitAt(t string, c byte) (string, string, bool) {
	if len(t) > MaxText {
		return "", "", false
	}
	i := strings.IndexByte(t, c)
	if i < 0 {
		return strings.Clone(t), "", false
	}
	return strings.Clone(t[:i]), strings.Clone(t[i+1:]), true
}
