package tests

import (
	"math/rand"
	"regexp"
	"strconv"
	"strings"
	"testing"

	"loop.example/g00788/impl"
)

// namedEscapes are all of chapter 3, with the bytes that they stand for.
func namedEscapes() map[string]string {
	return map[string]string{"&amp;": "&", "&lt;": "<", "&gt;": ">", "&quot;": `"`}
}

var anyEscape = regexp.MustCompile(`&(?:amp|lt|gt|quot|#(?:[1-9][0-9]?|1[01][0-9]|12[0-6]));`)

// unescaped reads chapter 3 in another way than the program: by one pattern.
func unescaped(t string) string {
	if len(t) > impl.MaxText {
		return ""
	}
	return anyEscape.ReplaceAllStringFunc(t, func(told string) string {
		if meant, named := namedEscapes()[told]; named {
			return meant
		}
		n, err := strconv.Atoi(told[2 : len(told)-1])
		if err != nil {
			panic(err)
		}
		return string([]byte{byte(n)})
	})
}

func escapedText(t string) string {
	return strings.NewReplacer("&", "&amp;", "<", "&lt;", ">", "&gt;").Replace(t)
}

func escapedValue(t string) string {
	return strings.ReplaceAll(escapedText(t), `"`, "&quot;")
}

// escapeTexts are texts about escapes: right ones, wrong ones, and ones that are not UTF-8.
func escapeTexts() []string {
	texts := []string{
		"", "&", "&&", ";", "&;", "&#", "&#;", "&#;65;", "a&b<c>d\"e'", "<!--a-->", "a-b", "a--b", "-", " - ", "é&é", "\u2028<", "\ufffd&\ufffd",
		"\xff", "\xff&\xfe", "\xc3&lt;", "\xe2\x80<", "\xf0\x9f\x98&#65;", "&\xc3\xa9;", "&l\xfft;", "&#6\xff5;", "\x00&amp;\x00", "&#٦٥;", "&#６５;",
		"&apos;", "&nbsp;", "&copy;", "&ampamp;", "&amp;amp;", "&amplt;", "&am&lt;", "&#&lt;", "&#6&#65;", "&#38;lt;", "&#38;#65;", "&amp;#65;",
		strings.Repeat("&", 9), strings.Repeat("&lt;", 9), strings.Repeat("&#", 9), strings.Repeat("\xff<", 9),
	}
	for told := range namedEscapes() {
		texts = append(texts, told, told+told, "x"+told+"y", "\xff"+told+"\xff")
		texts = append(texts, brokenEscapes(told)...)
	}
	for _, told := range []string{"&#1;", "&#65;", "&#126;"} {
		texts = append(texts, told, told+told, "x"+told+"y", "\xff"+told+"\xff")
		texts = append(texts, brokenEscapes(told)...)
	}
	return texts
}

// brokenEscapes are texts that differ a little from an escape, and hold none.
func brokenEscapes(told string) []string {
	var broken []string
	for i := 1; i < len(told); i++ {
		broken = append(broken, told[:i], told[i:], told[:i]+" "+told[i:], told[:i]+"\x00"+told[i:], told[:i]+"\xff"+told[i:], told[:i]+"a"+told[i:])
		if great := strings.ToUpper(told[i : i+1]); great != told[i:i+1] {
			broken = append(broken, told[:i]+great+told[i+1:])
		}
	}
	return append(broken, "&"+told[2:], told[:len(told)-1]+":", "%"+told[1:], told[:1]+told[:len(told)-1]+told[:len(told)-1])
}

func TestEscapesByByte(t *testing.T) {
	told := map[string]string{"&": "&amp;", "<": "&lt;", ">": "&gt;", `"`: "&quot;"}
	for c := range 256 {
		b := string([]byte{byte(c)})
		inText, inValue := b, b
		if told[b] != "" {
			inValue = told[b]
		}
		if told[b] != "" && b != `"` {
			inText = told[b]
		}
		for _, around := range [][2]string{{"", ""}, {"x", "y"}, {"\xc3", "\xff"}, {"é", "é"}, {";", "t;"}} {
			s := around[0] + b + around[1]
			if got, want := impl.EscapeText(s), around[0]+inText+around[1]; got != want {
				t.Errorf("EscapeText(%q) = %q, want %q", s, got, want)
			}
			if got, want := impl.EscapeValue(s), around[0]+inValue+around[1]; got != want {
				t.Errorf("EscapeValue(%q) = %q, want %q", s, got, want)
			}
			if got := impl.Unescape(s); got != s {
				t.Errorf("Unescape(%q) = %q", s, got)
			}
		}
	}
}

func TestEscapesOfTexts(t *testing.T) {
	for text, want := range map[string][2]string{
		"":                       {"", ""},
		"plain 'words'":          {"plain 'words'", "plain 'words'"},
		"a&b<c>d\"e'":            {"a&amp;b&lt;c&gt;d\"e'", "a&amp;b&lt;c&gt;d&quot;e'"},
		`<a href="x">&</a>`:      {`&lt;a href="x"&gt;&amp;&lt;/a&gt;`, `&lt;a href=&quot;x&quot;&gt;&amp;&lt;/a&gt;`},
		"&amp;&lt;&gt;&quot;":    {"&amp;amp;&amp;lt;&amp;gt;&amp;quot;", "&amp;amp;&amp;lt;&amp;gt;&amp;quot;"},
		`&<>"`:                   {`&amp;&lt;&gt;"`, "&amp;&lt;&gt;&quot;"},
		"&&<<":                   {"&amp;&amp;&lt;&lt;", "&amp;&amp;&lt;&lt;"},
		"&#65;":                  {"&amp;#65;", "&amp;#65;"},
		"\xff\"\xc3<\xe2\x80>é&": {"\xff\"\xc3&lt;\xe2\x80&gt;é&amp;", "\xff&quot;\xc3&lt;\xe2\x80&gt;é&amp;"},
	} {
		if got := impl.EscapeText(text); got != want[0] {
			t.Errorf("EscapeText(%q) = %q, want %q", text, got, want[0])
		}
		if got := impl.EscapeValue(text); got != want[1] {
			t.Errorf("EscapeValue(%q) = %q, want %q", text, got, want[1])
		}
	}
}

func TestUnescape(t *testing.T) {
	for text, want := range map[string]string{
		"": "", "plain": "plain", "&amp;&lt;&gt;&quot;": `&<>"`, "x&lt;y": "x<y", "&lt;&lt;": "<<", "&#60;script&#62;": "<script>",
		"&amp;lt;": "&lt;", "&amp;amp;lt;": "&amp;lt;", "&amp;#60;": "&#60;", "&#38;lt;": "&lt;", "&#38;#60;": "&#60;", "&amp;&amp;lt;": "&&lt;",
		"&&lt;": "&<", "&am&lt;": "&am<", "&l&lt;t;": "&l<t;", "&#&lt;": "&#<", "&#6&#65;": "&#6A", "&#&#65;;": "&#A;", "&lt&lt;": "&lt<",
		"&lt;;": "<;", "&&&gt;&&": "&&>&&", "&#65;5;": "A5;", "&#1;&#126;": "\x01~", "&#9;&#10;&#13;": "\t\n\r", "&#38;": "&", "&#34;": `"`,
		"\xff&lt;\xfe": "\xff<\xfe", "\xc3&#65;\xa9": "\xc3A\xa9", "é&gt;é": "é>é", "&\xc3&quot;": "&\xc3\"", "\x00&amp;\x00": "\x00&\x00",
	} {
		if got := impl.Unescape(text); got != want {
			t.Errorf("Unescape(%q) = %q, want %q", text, got, want)
		}
	}
}

func TestUnescapeOfNumbers(t *testing.T) {
	for n := -1100; n <= 11000; n++ {
		told := "&#" + strconv.Itoa(n) + ";"
		want := told
		if n >= 1 && n <= 126 {
			want = string([]byte{byte(n)})
		}
		if got := impl.Unescape(told); got != want {
			t.Errorf("Unescape(%q) = %q, want %q", told, got, want)
		}
		if got := impl.Unescape("<" + told + "&"); got != "<"+want+"&" {
			t.Errorf("Unescape within other bytes: %q = %q", told, got)
		}
	}
}

func TestEscapesThatAreNone(t *testing.T) {
	none := []string{
		"&", "&;", "&#", "&#;", "amp;", "&apos;", "&nbsp;", "&tilde;", "& lt;", "&lt ;", "& #65;", "&# 65;", "&#6 5;", "&#65 ;", "&#65", "&#65:", "&65;", "#65;",
		"&#x41;", "&#X41;", "&#0x41;", "&#6_5;", "&#1e1;", "&#6.5;", "&#A;", "&#٦٥;", "&#６５;", "&##65;", "&#'A';", "&#126.;",
		"&#256;", "&#321;", "&#1000;", "&#0001;", "&#18446744073709551681;", "&#4294967361;", "&#" + strings.Repeat("0", 100) + "65;",
	}
	for n := range 130 {
		digits := strconv.Itoa(n)
		for _, ahead := range []string{"0", "00", "+", "-", "-0", "+0", " ", "\t", "\x00", "x", "\xff"} {
			none = append(none, "&#"+ahead+digits+";")
		}
		none = append(none, "&#"+digits, "&#"+digits+" ;", "&#"+digits+"\xff;", "&#"+digits+"\n")
	}
	for told := range namedEscapes() {
		none = append(none, brokenEscapes(told)...)
		none = append(none, strings.ToUpper(told), strings.ToUpper(told[:2])+told[2:], strings.TrimSuffix(told, ";")+" ")
	}
	for _, told := range []string{"&#1;", "&#65;", "&#126;"} {
		none = append(none, brokenEscapes(told)...)
	}
	for _, s := range none {
		for _, around := range []string{"", "x", "#", "\xff"} {
			whole := around + s + around
			if got := impl.Unescape(whole); got != whole {
				t.Errorf("Unescape(%.40q) = %.40q", whole, got)
			}
		}
	}
}

// checkEscapes holds the functions of chapter 3 against the readings above, and looks at promise 3.
func checkEscapes(t *testing.T, s string) {
	t.Helper()
	inText, inValue := impl.EscapeText(s), impl.EscapeValue(s)
	if inText != escapedText(s) || inValue != escapedValue(s) {
		t.Errorf("%q is escaped as %q and %q", s, inText, inValue)
	}
	for _, escaped := range []string{inText, inValue} {
		if got := impl.Unescape(escaped); got != s {
			t.Errorf("%q, escaped as %q, is read back as %q", s, escaped, got)
		}
		if strings.ContainsAny(escaped, "<>") || impl.HasMarkup(escaped) {
			t.Errorf("%q, escaped as %q, has markup", s, escaped)
		}
	}
	if strings.Contains(inValue, `"`) {
		t.Errorf("EscapeValue(%q) = %q, with a quote", s, inValue)
	}
	if got, want := impl.Unescape(s), unescaped(s); got != want {
		t.Errorf("Unescape(%q) = %q, want %q", s, got, want)
	}
	if got, want := impl.HasMarkup(s), strings.IndexByte(s, '<') >= 0; got != want {
		t.Errorf("HasMarkup(%q) = %v", s, got)
	}
	if got, want := impl.CommentOK(s), isComment(s); got != want {
		t.Errorf("CommentOK(%q) = %v", s, got)
	}
}

func isComment(s string) bool {
	last := byte('-')
	for i := range len(s) {
		if s[i] == '<' || s[i] == '>' || s[i] == '-' && last == '-' {
			return false
		}
		last = s[i]
	}
	return s == "" || last != '-'
}

func TestEscapedIsReadBack(t *testing.T) {
	for _, s := range append(escapeTexts(), manyTexts()...) {
		if len(s) <= 1000 {
			checkEscapes(t, s)
		}
	}
}

func TestEscapesOfAnyPieces(t *testing.T) {
	pieces := []string{"&", "<", ">", `"`, ";", "#", "&amp;", "lt;", "&#", "60", "1", "0", "-", "x", "\xff", "\xc3", "é"}
	for n := range 5 {
		each(pieces, n, func(s string) { checkEscapes(t, s) })
	}
}

func TestEscapesOfAnyBytes(t *testing.T) {
	random := rand.New(rand.NewSource(3))
	for range 20000 {
		s := make([]byte, random.Intn(40))
		for i := range s {
			if s[i] = byte(random.Intn(256)); random.Intn(2) == 0 {
				s[i] = `&<>"#;-0126ltgampquo`[random.Intn(20)]
			}
		}
		checkEscapes(t, string(s))
	}
}

func TestHasMarkup(t *testing.T) {
	yes := []string{"<", "a<", "<a", "a<b", "<<", "\xff<\xff", "\x00<", "<script>", "é<", strings.Repeat("x", impl.MaxText-1) + "<", "<" + strings.Repeat("x", impl.MaxText-1)}
	no := []string{"", ">", "a>b", "&lt;", "&#60;", "\xff", "&", "\u2039", "\uff1c", "\u013c", strings.Repeat("x", impl.MaxText), "<" + strings.Repeat("x", impl.MaxText)}
	checkAll(t, "HasMarkup", impl.HasMarkup, yes, no)
	for c := range 256 {
		if b := string([]byte{byte(c)}); impl.HasMarkup(b) != (b == "<") || impl.HasMarkup("x"+b+"y") != (b == "<") {
			t.Errorf("HasMarkup of byte %d", c)
		}
	}
}

func TestCommentOK(t *testing.T) {
	yes := []string{
		"", "a", " ", "a-b", "a-b-c", " - ", "a - b-c", "\x00-\x00", "\xff-\xff", "é-é", "\u2014", "\u2014\u2014", "\u2010-\u2010", "!", "!-!", "&lt;", "&#45;-&#45;", " -x- ",
		strings.Repeat("x", impl.MaxText), strings.Repeat("x-", impl.MaxText/2-1) + "xx",
	}
	no := []string{
		"-", "--", "---", "-a", "a-", "-a-", "a--b", "a---b", "a--", "--a", "- -", "- ", " -", "<", ">", "a<b", "a>b", "<a", "a>", "a-b>", "->", "-->", "<!--", "!>", "--!>",
		"-\xff", "\xff-", "\xff--\xff", "\xff>", "\xff<", "\xc3<x>", "é--é", "a-b--c", "a-b-", "-a-b", "aaaaaaaaaaaaaaaa<", "aaaaaaaaaaaaaaaa>",
		strings.Repeat("x", impl.MaxText-1) + "-", "-" + strings.Repeat("x", impl.MaxText-1), strings.Repeat("x", impl.MaxText-1) + ">", strings.Repeat("x", impl.MaxText+1),
		strings.Repeat("x", impl.MaxText-2) + "--", strings.Repeat("x", impl.MaxText-3) + "--x",
	}
	checkAll(t, "CommentOK", impl.CommentOK, yes, no)
	for c := range 256 {
		b := string([]byte{byte(c)})
		if got, want := impl.CommentOK(b), !strings.Contains("<>-", b); got != want {
			t.Errorf("CommentOK(%q) = %v", b, got)
		}
		if got, want := impl.CommentOK("x"+b+"y"), !strings.Contains("<>", b); got != want {
			t.Errorf("CommentOK(%q) = %v", "x"+b+"y", got)
		}
		if got, want := impl.CommentOK("x-"+b+"-y"), !strings.Contains("<>-", b); got != want {
			t.Errorf("CommentOK(%q) = %v", "x-"+b+"-y", got)
		}
	}
}

func TestEscapesOfLongTexts(t *testing.T) {
	functions := []struct {
		name     string
		of, want func(string) string
	}{
		{"EscapeText", impl.EscapeText, escapedText},
		{"EscapeValue", impl.EscapeValue, escapedValue},
		{"Unescape", impl.Unescape, unescaped},
	}
	for _, f := range functions {
		for _, p := range []string{"x", "&", "<", ">", `"`, "\xff", "&#", "&lt;", "&#1;", "&amp", "&#126;"} {
			s := strings.Repeat(p, impl.MaxText/len(p)+1)
			if got := f.of(s[:impl.MaxText]); got != f.want(s[:impl.MaxText]) {
				t.Errorf("%s of MaxText bytes of %q is wrong", f.name, p)
			}
			if got := f.of(s + "x"); got != "" {
				t.Errorf("%s of more than MaxText bytes of %q has %d bytes", f.name, p, len(got))
			}
			if got := f.of(strings.Repeat("x", impl.MaxText+1-len(p)) + p); got != "" {
				t.Errorf("%s of MaxText+1 bytes with %q has %d bytes", f.name, p, len(got))
			}
		}
	}
	last := strings.Repeat("x", impl.MaxText-4)
	if impl.Unescape(last+"&lt;") != last+"<" || impl.EscapeText(last+"xxx<") != last+"xxx&lt;" || impl.EscapeValue(last+`xxx"`) != last+"xxx&quot;" {
		t.Error("the last byte of MaxText is not read")
	}
}
