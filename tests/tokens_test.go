package tests

import (
	"strings"
	"testing"

	"loop.example/g00788/impl"
)

func TestNumbersOfTokens(t *testing.T) {
	for i, kind := range []int{impl.TkWords, impl.TkOpen, impl.TkClose, impl.TkComment, impl.TkNothing} {
		if kind != i+1 {
			t.Errorf("a kind of token is %d, want %d", kind, i+1)
		}
	}
}

func wordsToken(text string) impl.Token { return impl.Token{Kind: impl.TkWords, Text: text} }

func commentToken(text string) impl.Token { return impl.Token{Kind: impl.TkComment, Text: text} }

func closing(name string) impl.Token { return impl.Token{Kind: impl.TkClose, Name: name} }

func nothing() impl.Token { return impl.Token{Kind: impl.TkNothing} }

// opening takes names and values of attributes by turns.
func opening(name string, pairs ...string) impl.Token {
	return impl.Token{Kind: impl.TkOpen, Name: name, Attrs: withAttrs(impl.Node{}, pairs...).Attrs}
}

func itself(x impl.Token) impl.Token {
	x.Self = true
	return x
}

func placedAt(at, length int, x impl.Token) impl.Token {
	x.At, x.Len = at, length
	return x
}

// checkToken looks at a token with other bytes behind it, alone and where there are bytes ahead.
func checkToken(t *testing.T, s, behind, raw string, want impl.Token) {
	t.Helper()
	for _, ahead := range []string{"", "x", "<b", "<!--", "\xff\xff\xff", "</style>"} {
		want = placedAt(len(ahead), len(s), want)
		got, code := impl.NextToken(ahead+s+behind, len(ahead), raw)
		if told(got) != told(want) || code != impl.OK {
			t.Errorf("NextToken(%.60q, %d, %q) = %.200s %d, want %.200s", ahead+s+behind, len(ahead), raw, told(got), code, told(want))
		}
	}
}

// checkTable takes texts with a | at the end of the token.
func checkTable(t *testing.T, raw string, table map[string]impl.Token) {
	t.Helper()
	for s, want := range table {
		token, behind, found := strings.Cut(s, "|")
		if !found {
			t.Errorf("%q does not tell where the token ends", s)
		}
		checkToken(t, token, behind, raw, want)
	}
}

func TestWordsTokens(t *testing.T) {
	checkTable(t, "", map[string]impl.Token{
		"a|":                  wordsToken("a"),
		"a b>c/d=\"e\"'f'|":   wordsToken("a b>c/d=\"e\"'f'"),
		"a&lt;b|<c>":          wordsToken("a<b"),
		"&#65;&amp;lt;|<":     wordsToken("A&lt;"),
		"<|":                  wordsToken("<"),
		"<|<b>":               wordsToken("<"),
		"< b>|</b>":           wordsToken("< b>"),
		"<&lt;b>|":            wordsToken("<<b>"),
		"<1>|":                wordsToken("<1>"),
		"<>|":                 wordsToken("<>"),
		"<_a id='|<'>":        wordsToken("<_a id='"),
		"<é>|":                wordsToken("<é>"),
		"\xff\x00\n|<b>":      wordsToken("\xff\x00\n"),
		">|":                  wordsToken(">"),
		"-->|":                wordsToken("-->"),
		"/b>|":                wordsToken("/b>"),
		"!--a-->|":            wordsToken("!--a-->"),
		"<-->|":               wordsToken("<-->"),
		"<=!?|":               wordsToken("<=!?"),
		"\xc2\xa0&nbsp;&lt|<": wordsToken("\xc2\xa0&nbsp;&lt"),
	})
}

// TestBytesBehindALessThan tells by its second byte what a token is.
func TestBytesBehindALessThan(t *testing.T) {
	for c := range 256 {
		b := string([]byte{byte(c)})
		letter := strings.Contains(smallLetters+greatLetters, b)
		switch {
		case c == '<':
			checkToken(t, "<", b+">", "", wordsToken("<"))
		case letter:
			checkToken(t, "<"+b+">", "", "", opening(strings.ToLower(b)))
			checkToken(t, "</"+b+">", "", "", closing(strings.ToLower(b)))
			checkToken(t, "<"+b, "", "", nothing())
			checkToken(t, "</"+b, "", "", nothing())
		case strings.Contains("!?/", b):
			checkToken(t, "<"+b, "", "", commentToken(""))
			checkToken(t, "<"+b+" a>", ">", "", commentToken(" a"))
		default:
			checkToken(t, "<"+b+"x", "<", "", wordsToken("<"+b+"x"))
		}
		if !letter && c != '>' {
			checkToken(t, "</"+b+"x", "", "", commentToken(b+"x"))
			checkToken(t, "</"+b+"x>", ">", "", commentToken(b+"x"))
		}
	}
}

func TestCommentTokens(t *testing.T) {
	checkTable(t, "", map[string]impl.Token{
		"<!--a-->|b":              commentToken("a"),
		"<!---->|b":               commentToken(""),
		"<!----->|b":              commentToken("-"),
		"<!-->|":                  commentToken(">"),
		"<!--->|":                 commentToken("->"),
		"<!-->-->|b":              commentToken(">"),
		"<!--->-->|b":             commentToken("->"),
		"<!--a--b->c-- >-->|-->d": commentToken("a--b->c-- >"),
		"<!--a--!>b|":             commentToken("a--!>b"),
		"<!--<b>&lt;<!--c-->|":    commentToken("<b>&lt;<!--c"),
		"<!--|":                   commentToken(""),
		"<!--a|":                  commentToken("a"),
		"<!--a--|":                commentToken("a--"),
		"<!--\xff\x00\n-->|":      commentToken("\xff\x00\n"),
		"<!-|":                    commentToken("-"),
		"<!->|b":                  commentToken("-"),
		"<!->|-->b":               commentToken("-"),
		"<!- -a-->|b":             commentToken("- -a--"),
		"<!|":                     commentToken(""),
		"<!>|b":                   commentToken(""),
		"<!DOCTYPE p 'a>|b'>c":    commentToken("DOCTYPE p 'a"),
		"<!&lt;<b|":               commentToken("&lt;<b"),
		"<! --a-->|":              commentToken(" --a--"),
		"<?|":                     commentToken(""),
		"<?>|b":                   commentToken(""),
		"<?x?>|b":                 commentToken("x?"),
		"<?--a-->|b":              commentToken("--a--"),
		"<?a|":                    commentToken("a"),
		"</|":                     commentToken(""),
		"</>|b":                   commentToken(""),
		"</ b>|c":                 commentToken(" b"),
		"</!--a>|b-->":            commentToken("!--a"),
		"</<b>|":                  commentToken("<b"),
		"</1&gt;|":                commentToken("1&gt;"),
		"<//b>|":                  commentToken("/b"),
	})
}

func TestClosingTokens(t *testing.T) {
	checkTable(t, "", map[string]impl.Token{
		"</b>|c":              closing("b"),
		"</B>|":               closing("b"),
		"</xLink-HREF>|":      closing("xlink-href"),
		"</b >|c":             closing("b"),
		"</b/>|c":             closing("b"),
		"</b/c>|d":            closing("b"),
		"</b c='>|'>":         closing("b"),
		"</b id=1 <i>|x>":     closing("b"),
		"</twelveletter>|":    closing("twelveletter"),
		"</thirteenlette>|":   nothing(),
		"</x_y>|z":            nothing(),
		"</x_y z='>|'>":       nothing(),
		"</b<i>|c":            nothing(),
		"</b=>|c":             nothing(),
		"</b\x00>|c":          nothing(),
		"</b\xff>|c":          nothing(),
		"</\u212a>|":          commentToken("\u212a"),
		"</b\u212a>|c":        nothing(),
		"</b|":                nothing(),
		"</b |":               nothing(),
		"</b/|":               nothing(),
		"</b <i|":             nothing(),
		"</x_y|":              nothing(),
		"</style>|&lt;":       closing("style"),
		"</script\n-->|</b>":  closing("script"),
		"</p class=\"a\"/>|>": closing("p"),
	})
}

func TestOpeningTokens(t *testing.T) {
	checkTable(t, "", map[string]impl.Token{
		"<b>|c":                       opening("b"),
		"<B>|":                        opening("b"),
		"<xLink-HREF>|":               opening("xlink-href"),
		"<h1>|":                       opening("h1"),
		"<twelveletter id>|":          opening("twelveletter", "id", ""),
		"<b\n\n>|":                    opening("b"),
		"<a id=1 class=2>|":           opening("a", "id", "1", "class", "2"),
		"<A ID=Ab CLASS=Cd>|":         opening("a", "id", "Ab", "class", "Cd"),
		"<a id='1'class=\"2\"title>|": opening("a", "id", "1", "class", "2", "title", ""),
		"<a title='a>b' id=\">\">|":   opening("a", "title", "a>b", "id", ">"),
		"<a title='\"' id=\"'\">|":    opening("a", "title", "\"", "id", "'"),
		"<a title='<b>'>|":            opening("a", "title", "<b>"),
		"<a id=''>|":                  opening("a", "id", ""),
		"<a id=\"\" class>|":          opening("a", "id", "", "class", ""),
		"<a id=>|":                    opening("a", "id", ""),
		"<a id = >|":                  opening("a", "id", ""),
		"<a id = 'x' >|":              opening("a", "id", "x"),
		"<a id\n\t=\f\rx\n>|":         opening("a", "id", "x"),
		"<a id class>|":               opening("a", "id", "", "class", ""),
		"<a id =x class= y>|":         opening("a", "id", "x", "class", "y"),
		"<a id= class=x>|":            opening("a", "id", "class=x"),
		"<a id=x=y>|":                 opening("a", "id", "x=y"),
		"<a id==x>|":                  opening("a", "id", "=x"),
		"<a id= = x>|":                opening("a", "id", "=", "x", ""),
		"<a id=x'y\"z>|":              opening("a", "id", "x'y\"z"),
		"<a id=<b>|":                  opening("a", "id", "<b"),
		"<a id=\xff\x00>|":            opening("a", "id", "\xff\x00"),
		"<a id='\n\xff<'>|":           opening("a", "id", "\n\xff<"),
		"<a id='a'b='c'>|":            opening("a", "id", "a", "b", "c"),
		"<a/id/class/>|":              itself(opening("a", "id", "", "class", "")),
		"<a /id = 1 / class='2'>|":    opening("a", "id", "1", "class", "2"),
		"<a id=&lt;&#65;&amp;lt;>|":   opening("a", "id", "<A&lt;"),
		"<a id='&quot;&gt;&x'>|":      opening("a", "id", "\">&x"),
		"<a id=\"&#39;&#10;\">|":      opening("a", "id", "'\n"),
		"<a &lt;=1 id=&quot>|":        opening("a", "id", "&quot"),
		"<style id=1>|</style>":       opening("style", "id", "1"),
	})
}

func TestSelf(t *testing.T) {
	for s, want := range map[string]bool{
		"<b/>": true, "<b />": true, "<b //>": true, "<b/ />": true, "<b\n/>": true, "<b/ >": false, "<b / >": false, "<b/\t>": false, "<b>": false, "<b >": false,
		"<b id/>": true, "<b id />": true, "<b id/ >": false, "<b/id>": false, "<b/ id>": false, "<b /id >": false, "<b / id=1>": false,
		"<b id=1/>": false, "<b id=1 />": true, "<b id=/>": false, "<b id= />": false, "<b id=//>": false, "<b id= / />": true, "<b id=1/ />": true, "<b id=1/ >": false,
		"<b id='1'/>": true, "<b id=\"1\" / />": true, "<b id='1/'>": false, "<b id='/>'>": false, "<b id='/'/>": true, "<b id=''/>": true, "<b id=\"\"/ >": false,
		"<b =/>": true, "<b ==/>": false, "<b x_y=1/>": false, "<b x_y/>": true, "<b '/>": true, "<b id id/>": true, "<style/>": true, "<br/>": true,
	} {
		got, code := impl.NextToken(s, 0, "")
		if got.Self != want || got.Kind != impl.TkOpen || got.Len != len(s) || code != impl.OK {
			t.Errorf("NextToken(%q) = %s %d, want Self %v", s, told(got), code, want)
		}
	}
	for _, s := range []string{"<x_y/>", "<b/", "<b /", "</b/>", "<!/>", "<?/>", "</ />", "<1/>", "/>", "<!--/-->"} {
		if got, code := impl.NextToken(s, 0, ""); got.Self || code != impl.OK {
			t.Errorf("NextToken(%q) = %s %d, want no Self", s, told(got), code)
		}
	}
}

func TestAttributesLeftOut(t *testing.T) {
	forty := strings.Repeat("v", impl.MaxValue)
	for s, want := range map[string][]string{
		"id=1 id=2":                                                {"id", "1"},
		"id id=2 class=3":                                          {"id", "", "class", "3"},
		"id=1 ID=2 Id='3'":                                         {"id", "1"},
		"id=1 class=2 id=3 class title=4":                          {"id", "1", "class", "2", "title", "4"},
		"a=1 b=2 c=3 d=4 e=5 f=6":                                  {"a", "1", "b", "2", "c", "3", "d", "4", "e", "5", "f", "6"},
		"a=1 b=2 c=3 d=4 e=5 f=6 g=7 h":                            {"a", "1", "b", "2", "c", "3", "d", "4", "e", "5", "f", "6"},
		"a=1 a=1 b=2 B c=3 d=4 x_y e=5 f g":                        {"a", "1", "b", "2", "c", "3", "d", "4", "e", "5", "f", ""},
		"id=" + forty:                                              {"id", forty},
		"id='" + forty + "'":                                       {"id", forty},
		"id=" + forty + "v class=1":                                {"class", "1"},
		"id='" + forty + "v' id=2":                                 {"id", "2"},
		"id=\"" + forty + "v\" id":                                 {"id", ""},
		"id=2 id=" + forty + "v":                                   {"id", "2"},
		"id='" + strings.Repeat("&#65;", impl.MaxValue) + "'":      {"id", strings.Repeat("A", impl.MaxValue)},
		"id='" + strings.Repeat("&amp;", impl.MaxValue) + "&lt' b": {"b", ""},
		"id=" + strings.Repeat("é", 20) + " b=" + strings.Repeat("é", 20) + "x": {"id", strings.Repeat("é", 20)},
		"=id=1 b=2":                         {"b", "2"},
		"= id=1":                            {"id", "1"},
		"=":                                 {},
		"=='x' id":                          {"id", ""},
		"x_y=1 1a=2 -a=3 é=4 a\xff=5 id=6":  {"id", "6"},
		"'id=1' \"b\"=2 c'=3 d\"=4 e<f=5 g": {"g", ""},
		"a.b:c @d *e [f] (g) h":             {"h", ""},
		"thirteenlette=1 twelveletter=2":    {"twelveletter", "2"},
		"on onclick=x href=javascript: id=": {"on", "", "onclick", "x", "href", "javascript:", "id", ""},
		"a-1=1 A-1=2 a-1-=3 _a=4":           {"a-1", "1", "a-1-", "3"},
		"\u212a=1 b\u212a=2 b\u017f=3 k=4":  {"k", "4"},
		"a\x00=1 \x00=2 a\v=3 b":            {"b", ""},
	} {
		checkToken(t, "<a "+s+">", "x", "", opening("a", want...))
		checkToken(t, "<A/"+s+"\f>", "", "", opening("a", want...))
	}
}

func TestNamesOfTags(t *testing.T) {
	for _, name := range []string{"b", "h1", "a-", "a--b", "xlink-href", "twelveletter", "script", "svg", "z0-9"} {
		for _, tag := range []string{name, strings.ToUpper(name), strings.ToUpper(name[:1]) + name[1:]} {
			checkToken(t, "<"+tag+">", "x", "", opening(name))
			checkToken(t, "<"+tag+" id='>'/>", "", "", itself(opening(name, "id", ">")))
			checkToken(t, "</"+tag+" id='>", "'/>", "", closing(name))
		}
	}
	for _, name := range []string{"x_y", "a.b", "a:b", "a=b", "a'b", "a\"b\"", "a<b", "b<", "a&amp;", "aé", "a\xff", "a\x00", "a\v", "a\u00a0b", "a\u212a", "thirteenlette", strings.Repeat("a", 1000), "a!", "a--_"} {
		checkToken(t, "<"+name+">", "x", "", nothing())
		checkToken(t, "<"+name+"/>", "x", "", nothing())
		checkToken(t, "<"+name+" id=1 title='>' class=\">\"/>", "x", "", nothing())
		checkToken(t, "</"+name+">", "x", "", nothing())
		checkToken(t, "</"+name+" title='>", "'>x", "", nothing())
	}
}

// TestTagsThatDoNotEnd cuts tags off at each of their bytes.
func TestTagsThatDoNotEnd(t *testing.T) {
	for _, tag := range endedTags() {
		for n := 2; n < len(tag); n++ {
			checkToken(t, tag[:n], "", "", nothing())
		}
		if got, code := impl.NextToken(tag+"x", 0, ""); got.Len != len(tag) || code != impl.OK {
			t.Errorf("NextToken(%q) = %s %d, want a token of all but its last byte", tag+"x", told(got), code)
		}
	}
	for _, s := range []string{
		"<a title='x>y</a><b>", "<a title=\"x>y'</a><b>", "<a title='x\">", "<a title=\"x'>", "<a title=' >", "<a title='", "<a title=\"", "<a title= '>", "<a id='1' title='>", "<a id=\"1\"title=\">",
		"<a title='&#39;>", "<a title=\"&quot;>", "<a x_y='>", "<x_y id='>", "<style id='></style>", "<a =='>", "<a id='1'b='>", "<a id=1 id='>", "<a " + strings.Repeat("a ", 10) + "b='>",
		"<a <b", "<a\n", "<a/", "<a /", "<a =", "<a id= ", "<a id=x/", "<a id=x&gt;", "<a\xff", "<" + strings.Repeat("a", impl.MaxText-1), "<a " + strings.Repeat("<a ", 1000), "<a id=\"" + strings.Repeat(">", 1000),
	} {
		want := told(placedAt(0, len(s), nothing()))
		if got, code := impl.NextToken(s, 0, ""); told(got) != want || code != impl.OK {
			t.Errorf("NextToken(%.60q) = %.200s %d, want nothing to the end", s, told(got), code)
		}
		if tokens, code := impl.TokensOf(s); told(tokens...) != want || code != impl.OK {
			t.Errorf("TokensOf(%.60q) = %.200s %d, want nothing to the end", s, told(tokens...), code)
		}
	}
}

// TestEachByteWithinTags puts every byte where blanks and other bytes are told apart.
func TestEachByteWithinTags(t *testing.T) {
	for c := range 256 {
		if c == '>' {
			continue
		}
		b := string([]byte{byte(c)})
		ofName := strings.Contains(smallLetters+greatLetters+digits+"-", b)
		low := lowered([]byte(b))
		opened, closed, told := nothing(), nothing(), opening("a")
		switch {
		case isBlank(byte(c)) || c == '/':
			opened, closed, told = opening("a", "id", ""), closing("a"), opening("a", "i", "", "d", "")
		case c == '=':
			told = opening("a", "i", "d")
		case ofName:
			opened, closed, told = opening("a"+low+"id"), closing("a"+low+"id"), opening("a", "i"+low+"d", "")
		}
		checkToken(t, "<a"+b+"id>", "", "", opened)
		checkToken(t, "</a"+b+"id>", "", "", closed)
		checkToken(t, "<a i"+b+"d>", "", "", told)
		checkByteInValue(t, b)
	}
}

func checkByteInValue(t *testing.T, b string) {
	t.Helper()
	for _, quote := range []string{"'", "\""} {
		value := "x" + b + "y"
		if b == quote {
			value = "x"
		}
		checkToken(t, "<a id="+quote+"x"+b+"y"+quote+">", "", "", opening("a", "id", value))
	}
	switch {
	case isBlank(b[0]):
		checkToken(t, "<a id=x"+b+"y>", "", "", opening("a", "id", "x", "y", ""))
		checkToken(t, "<a id="+b+"y>", "", "", opening("a", "id", "y"))
		checkToken(t, "<a id"+b+"=y>", "", "", opening("a", "id", "y"))
		checkToken(t, "<a id=''"+b+"y>", "", "", opening("a", "id", "", "y", ""))
	case b == "'" || b == "\"":
		checkToken(t, "<a id=x"+b+"y>", "", "", opening("a", "id", "x"+b+"y"))
		checkToken(t, "<a id="+b+"y>", "", "", nothing())
	default:
		checkToken(t, "<a id=x"+b+"y>", "", "", opening("a", "id", "x"+b+"y"))
		checkToken(t, "<a id="+b+"y>", "", "", opening("a", "id", b+"y"))
	}
}
