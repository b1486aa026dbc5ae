package tests

import (
	"strings"
	"testing"

	"loop.example/g00788/impl"
)

const scheme = "javascript:"

// isBadLink reads chapter 2 to the letter, one step after the other.
func isBadLink(value string) bool {
	if len(value) > impl.MaxText {
		return false
	}
	for value != "" && value[0] <= 32 {
		value = value[1:]
	}
	var left []byte
	for i := range len(value) {
		if c := value[i]; c != 9 && c != 10 && c != 13 {
			if 'A' <= c && c <= 'Z' {
				c += 32
			}
			left = append(left, c)
		}
	}
	return strings.HasPrefix(string(left), scheme)
}

func TestBadLink(t *testing.T) {
	yes := []string{
		scheme, scheme + "alert(1)", scheme + scheme, "JAVASCRIPT:", "JavaScript:x", "jAVASCRIPT:\xff",
		" " + scheme, " \t\r\n\x00\x1f" + scheme, "\x0b\x0c JAVASCRIPT:", "\tj\na\rv\ta\ns\rc\tr\ni\rp\tt\n:", " \n java\r\nscript\t\t: x",
		"j\t\t\t\n\n\navascript:",
	}
	no := []string{
		"", " ", "\t\n\r", "j", "javascript", "javascript :", "javascript ", "java script:", "j\x00avascript:", "j\x0bavascript:", "java\x0cscript:",
		"java\x1fscript:", "j avascript:", "xjavascript:", "\x7fjavascript:", "\xa0javascript:", "\u00a0javascript:", "\u0085javascript:", "\ufeffjavascript:",
		"!javascript:", "/javascript:", "https:javascript:", "vbscript:", "data:", "jjavascript:", "javascript;", "javascripts:", "avascript:", ":", "http://a/?javascript:",
		"java\u017fcript:", "java\u017fCRIPT:", "javascr\u0131pt:", "javascr\u0130pt:", "&#106;avascript:", "%6aavascript:", "javascript&colon;",
	}
	checkAll(t, "BadLink", impl.BadLink, yes, no)
}

func TestBadLinkByByte(t *testing.T) {
	for c := range 256 {
		b := string([]byte{byte(c)})
		if got, want := impl.BadLink(b+scheme), c <= 32; got != want {
			t.Errorf("BadLink(%q) = %v", b+scheme, got)
		}
		for i := 1; i < len(scheme); i++ {
			// A colon more ahead of the last byte is one behind it, too.
			s := scheme[:i] + b + scheme[i:]
			if got, want := impl.BadLink(s), c == 9 || c == 10 || c == 13 || s == scheme+":"; got != want {
				t.Errorf("BadLink(%q) = %v", s, got)
			}
		}
		for i := range len(scheme) {
			s := scheme[:i] + b + scheme[i+1:]
			if got, want := impl.BadLink(s), isBadLink(s); got != want {
				t.Errorf("BadLink(%q) = %v", s, got)
			}
		}
		if !impl.BadLink(scheme + b) {
			t.Errorf("BadLink(%q) is false", scheme+b)
		}
	}
}

func TestBadLinkInLettersOfBothSizes(t *testing.T) {
	letters := len(scheme) - 1
	for set := range 1 << letters {
		s := []byte(scheme)
		for i := range letters {
			if set>>i&1 == 1 {
				s[i] -= 32
			}
		}
		if !impl.BadLink(string(s)) {
			t.Errorf("BadLink(%q) is false", s)
		}
	}
}

func TestBadLinkOfAnyTexts(t *testing.T) {
	pieces := []string{"java", "JAVA", "script", "sCript", ":", " ", "\t", "\n", "\r", "\x00", "x", "\xc1", scheme}
	for n := range 5 {
		each(pieces, n, func(s string) {
			if got, want := impl.BadLink(s), isBadLink(s); got != want {
				t.Errorf("BadLink(%q) = %v, want %v", s, got, want)
			}
		})
	}
}

// each calls f with all texts of n pieces.
func each(pieces []string, n int, f func(string)) {
	if n == 0 {
		f("")
		return
	}
	for _, p := range pieces {
		each(pieces, n-1, func(s string) { f(p + s) })
	}
}

func TestBadLinkLengths(t *testing.T) {
	blanks := strings.Repeat(" ", impl.MaxText-len(scheme))
	ends := strings.Repeat("\n", impl.MaxText-len(scheme))
	tail := strings.Repeat("x", impl.MaxText-len(scheme))
	yes := []string{blanks + scheme, "java" + ends + "script:", scheme + tail}
	no := []string{
		" " + blanks + scheme, "java\n" + ends + "script:", scheme + "x" + tail,
		strings.Repeat(" ", impl.MaxText), strings.Repeat("\n", impl.MaxText), strings.Repeat("x", impl.MaxText),
	}
	checkAll(t, "BadLink", impl.BadLink, yes, no)
}
