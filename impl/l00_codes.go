package impl

const (
	MaxText = 65536
	MaxList = 4096
	MaxName = 12

	OK        = 0
	ErrBad    = 1
	ErrLong   = 2
	ErrForm   = 3
	ErrRange  = 4
	ErrNone   = 5
	ErrMany   = 6
	ErrFull   = 7
	ErrSize   = 8
	ErrKind   = 9
	ErrName   = 10
	ErrDeep   = 11
	ErrHandle = 12
	ErrConfig = 13
	ErrAgain  = 14
	ErrUnsafe = 15
	ErrPlace  = 16
	ErrState  = 17
	ErrSame   = 18
)

var codeWords = [...]string{
	OK:        "ok",
	ErrBad:    "bad",
	ErrLong:   "long",
	ErrForm:   "form",
	ErrRange:  "range",
	ErrNone:   "none",
	ErrMany:   "many",
	ErrFull:   "full",
	ErrSize:   "size",
	ErrKind:   "kind",
	ErrName:   "name",
	ErrDeep:   "deep",
	ErrHandle: "handle",
	ErrConfig: "config",
	ErrAgain:  "again",
	ErrUnsafe: "unsafe",
	ErrPlace:  "place",
	ErrState:  "state",
	ErrSame:   "same",
}

func NameOK(t string) bool {
	return isNameOf(t, beginsName, followsInName)
}

// isNameOf serves both sorts of names: they are equally long, and differ only
// in the bytes that may begin them and that may follow.
func isNameOf(t string, begins, follows func(byte) bool) bool {
	if t == "" || len(t) > MaxName || !begins(t[0]) {
		return false
	}
	for i := 1; i < len(t); i++ {
		if !follows(t[i]) {
			return false
		}
	}
	return true
}

func beginsName(c byte) bool {
	return isSmall(c) || isGreat(c) || c == '_'
}

func followsInName(c byte) bool {
	return beginsName(c) || isDigit(c)
}

func isSmall(c byte) bool { return 'a' <= c && c <= 'z' }

func isGreat(c byte) bool { return 'A' <= c && c <= 'Z' }

func isDigit(c byte) bool { return '0' <= c && c <= '9' }

func CodeWord(code int) string {
	if code < 0 || code >= len(codeWords) {
		return ""
	}
	return codeWords[code]
}

func CodeOf(word string) int {
	for code, known := range codeWords {
		if known == word {
			return code
		}
	}
	return -1
}
