package impl

const (
	MaxText = 65536
	MaxList = 4096
	MaxName = 12

	OK        = 0
	ErrBad    = 1
	ErrLong   = 2
	ErrForm   = 3
	ErrRange  = 4
	ErrNone   = 5
	ErrMany   = 6
	ErrFull   = 7
	ErrSize   = 8
	ErrKind   = 9
	ErrDate   = 10
	ErrSuffix = 11
	ErrDomain = 12
	ErrSecure = 13
	ErrHttp   = 14
	ErrSite   = 15
	ErrPrefix = 16
	ErrOrder  = 17
	ErrSame   = 18
)

var codeWords = [...]string{
	OK:        "ok",
	ErrBad:    "bad",
	ErrLong:   "long",
	ErrForm:   "form",
	ErrRange:  "range",
	ErrNone:   "none",
	ErrMany:   "many",
	ErrFull:   "full",
	ErrSize:   "size",
	ErrKind:   "kind",
	ErrDate:   "date",
	ErrSuffix: "suffix",
	ErrDomain: "domain",
	ErrSecure: "secure",
	ErrHttp:   "http",
	ErrSite:   "site",
	ErrPrefix: "prefix",
	ErrOrder:  "order",
	ErrSame:   "same",
}

func NameOK(t string) bool {
	if t == "" || len(t) > MaxName {
		return false
	}
	for i, r := range t {
		class := classOf(r)
		if class < classDigit || i == 0 && class == classDigit {
			return false
		}
	}
	return true
}

func CodeWord(code int) string {
	if code < 0 || code >= len(codeWords) {
		return ""
	}
	return codeWords[code]
}

func CodeOf(word string) int {
	for code, w := range codeWords {
		if w == word {
			return code
		}
	}
	return -1
}
