package tests

import (
	"math"
	"math/rand"
	"reflect"
	"slices"
	"strings"
	"testing"

	"loop.example/g00788/impl"
)

func TestTokensWithinRawElements(t *testing.T) {
	checkTable(t, "style", map[string]impl.Token{
		"a<b>&lt;|</style>z":          wordsToken("a<b>&lt;"),
		"<b>|":                        wordsToken("<b>"),
		"&lt;&#65;|":                  wordsToken("&lt;&#65;"),
		"<!--|</style>-->":            wordsToken("<!--"),
		"<style>|</style>":            wordsToken("<style>"),
		"</style|":                    wordsToken("</style"),
		"a</style|":                   wordsToken("a</style"),
		"</styles>|":                  wordsToken("</styles>"),
		"</style\xff></style\x00>|":   wordsToken("</style\xff></style\x00>"),
		"</style\v></style->|":        wordsToken("</style\v></style->"),
		"a</styles>|</STYLE >z":       wordsToken("a</styles>"),
		"</ style></sty le>|</style>": wordsToken("</ style></sty le>"),
		"</script>|</style>":          wordsToken("</script>"),
		"</|</style>":                 wordsToken("</"),
		"<|</style>":                  wordsToken("<"),
		"< /style>|</style/":          wordsToken("< /style>"),
		"</sty\xc5\xbfle>|</style>":   wordsToken("</sty\xc5\xbfle>"),
		"</\xc5\xbftyle>|</style>":    wordsToken("</\xc5\xbftyle>"),
		"\xff\x00|</style>":           wordsToken("\xff\x00"),
		" |</style>":                  wordsToken(" "),
		"a</style<b>|</style\n":       wordsToken("a</style<b>"),
		"</style>|z":                  closing("style"),
		"</STYLE>|z":                  closing("style"),
		"</sTyLe\t>|":                 closing("style"),
		"</style/a='>|'>":             closing("style"),
		"</style/|":                   nothing(),
		"</style |":                   nothing(),
		"</style <b|":                 nothing(),
	})
	for _, raw := range []string{"b", "a-1", "xmp", "iframe", "script", "twelveletter", "p"} {
		checkToken(t, "<b>&lt;</style>", "</"+raw+">", raw, wordsToken("<b>&lt;</style>"))
		checkToken(t, "</"+raw+"x></"+raw, "", raw, wordsToken("</"+raw+"x></"+raw))
		checkToken(t, "</"+raw+">", "", raw, closing(raw))
		checkToken(t, "</"+strings.ToUpper(raw)+"/", "", raw, nothing())
	}
	checkToken(t, "</\u212a>", "</k>", "k", wordsToken("</\u212a>"))
}

func TestBytesBehindTheNameOfARawElement(t *testing.T) {
	for c := range 256 {
		end := "</xmp" + string([]byte{byte(c)})
		switch {
		case c == '>':
			checkToken(t, "x", end+"y>", "xmp", wordsToken("x"))
			checkToken(t, end, "y>", "xmp", closing("xmp"))
		case isBlank(byte(c)) || c == '/':
			checkToken(t, "x", end+"y>", "xmp", wordsToken("x"))
			checkToken(t, end+"y>", "", "xmp", closing("xmp"))
		default:
			checkToken(t, "x"+end+"y>", "", "xmp", wordsToken("x"+end+"y>"))
			checkToken(t, end+"y>", "", "xmp", wordsToken(end+"y>"))
		}
	}
}

// A piece is the text of one token, and the token without its place.
type piece struct {
	text  string
	token impl.Token
}

func checkPieces(t *testing.T, pieces ...piece) {
	t.Helper()
	text := ""
	var want []impl.Token
	for _, p := range pieces {
		want = append(want, placedAt(len(text), len(p.text), p.token))
		text += p.text
	}
	if tokens, code := impl.TokensOf(text); told(tokens...) != told(want...) || code != impl.OK {
		t.Errorf("TokensOf(%q) = %s %d, want %s", text, told(tokens...), code, told(want...))
	}
}

func TestRawElementsEndInLettersOfBothSizes(t *testing.T) {
	for _, name := range []string{"style", "script", "xmp", "iframe"} {
		for set := range 1 << len(name) {
			end := []byte(name)
			for i := range name {
				if set>>i&1 == 1 {
					end[i] -= 32
				}
			}
			checkPieces(t, piece{"<" + string(end) + ">", opening(name)}, piece{"<b>", wordsToken("<b>")}, piece{"</" + string(end) + ">", closing(name)})
		}
	}
}

// TestWhatIsWithinARawElement holds, for each name, that it is raw just if IsRaw tells it.
func TestWhatIsWithinARawElement(t *testing.T) {
	for _, name := range tagMembers() {
		opened, closed, behind := piece{"<" + name + ">", opening(name)}, piece{"</" + name + ">", closing(name)}, piece{"<i>", opening("i")}
		if slices.Contains([]string{"style", "script", "xmp", "iframe"}, name) {
			checkPieces(t, opened, piece{"<b>&lt;", wordsToken("<b>&lt;")}, closed, behind)
			continue
		}
		checkPieces(t, opened, piece{"<b>", opening("b")}, piece{"&lt;", wordsToken("<")}, closed, behind)
	}
}

func TestTokensByHand(t *testing.T) {
	style, closed := piece{"<style>", opening("style")}, piece{"</style>", closing("style")}
	a, bold := piece{"a", wordsToken("a")}, piece{"<b>", opening("b")}
	for _, pieces := range [][]piece{
		{},
		{a},
		{a, bold, a, {"</b", nothing()}},
		{{"<p>", opening("p")}, a, style, {"<b>", wordsToken("<b>")}, closed, a, {"</p>", closing("p")}, {"<!--d-->", commentToken("d")}},
		{style, closed, bold},
		{{"<style/>", itself(opening("style"))}, {"</b>", wordsToken("</b>")}, closed, {"</b>", closing("b")}},
		{style},
		{style, {"&lt;", wordsToken("&lt;")}},
		{{"<xmp>", opening("xmp")}, {"</style>", wordsToken("</style>")}, {"</xmp>", closing("xmp")}, {"&lt;", wordsToken("<")}},
		{style, a, {"</style <b>", closing("style")}, a},
		{style, a, {"</style/", nothing()}},
		{style, {"</style <b", nothing()}},
		{{"<style_x>", nothing()}, bold},
		{closed, bold},
		{{"<!style>", commentToken("style")}, bold},
		{{"<STYLE ID='>'>", opening("style", "id", ">")}, {"<b>", wordsToken("<b>")}, {"</Style\n>", closing("style")}, a},
		{style, {"<style>", wordsToken("<style>")}, closed, bold},
		{{"<", wordsToken("<")}, bold, {"< ", wordsToken("< ")}, {"<", wordsToken("<")}},
		{{"</>", commentToken("")}, {"<?>", commentToken("")}, {"<!>", commentToken("")}, {"<x_y>", nothing()}, {"</x_y>", nothing()}},
		{{"<br/>", itself(opening("br"))}, {"<img ID=1/>", opening("img", "id", "1/")}},
	} {
		checkPieces(t, pieces...)
	}
}

func next(t *testing.T) func(s string, at int, raw string) impl.Token {
	return func(s string, at int, raw string) impl.Token {
		token, code := impl.NextToken(s, at, raw)
		if code != impl.OK {
			t.Errorf("NextToken(%.60q, %d, %q) has code %d", s, at, raw, code)
		}
		return token
	}
}

// checkTokens looks at promise 6, and holds both functions against the other reading.
func checkTokens(t *testing.T, s string) {
	t.Helper()
	tokens, code := impl.TokensOf(s)
	want := tokensBy(tokenAt, s)
	if len(want) > impl.MaxList {
		if len(tokens) != 0 || code != impl.ErrMany {
			t.Errorf("TokensOf(%.100q): %d tokens, code %d, of %d tokens", s, len(tokens), code, len(want))
		}
		return
	}
	if told(tokens...) != told(want...) || code != impl.OK {
		t.Errorf("TokensOf(%.300q) = %.600s %d, want %.600s", s, told(tokens...), code, told(want...))
	}
	if one := tokensBy(next(t), s); told(one...) != told(want...) {
		t.Errorf("NextToken, one after the other, of %.300q: %.600s, want %.600s", s, told(one...), told(want...))
	}
	end := 0
	for _, x := range tokens {
		if x.At != end || x.Len < 1 {
			t.Errorf("TokensOf(%.300q): a token at %d of %d bytes behind one up to %d", s, x.At, x.Len, end)
		}
		end = x.At + x.Len
		checkParts(t, x)
	}
	if end != len(s) {
		t.Errorf("TokensOf(%.300q) goes up to %d", s, end)
	}
}

// checkParts holds that a token has nothing but what its kind has.
func checkParts(t *testing.T, x impl.Token) {
	t.Helper()
	right := false
	switch x.Kind {
	case impl.TkWords:
		right = x.Text != "" && x.Name == "" && len(x.Attrs) == 0 && !x.Self
	case impl.TkOpen:
		right = x.Text == "" && impl.TreeOK(tree(impl.Node{Kind: impl.NdElement, Name: x.Name, Attrs: x.Attrs}))
	case impl.TkClose:
		right = x.Text == "" && impl.TagOK(x.Name) && len(x.Attrs) == 0 && !x.Self
	case impl.TkComment:
		right = x.Name == "" && len(x.Attrs) == 0 && !x.Self
	case impl.TkNothing:
		right = x.Text == "" && x.Name == "" && len(x.Attrs) == 0 && !x.Self
	}
	if !right {
		t.Errorf("no token has these parts: %s", told(x))
	}
}

func TestTokensAreAllBytes(t *testing.T) {
	for _, s := range manyTexts() {
		if len(s) <= impl.MaxText {
			checkTokens(t, s)
		}
	}
}

func TestTokensOfAnyPieces(t *testing.T) {
	marks := []string{"<", ">", "/", "=", "'", "\"", " ", "a", "!", "-", "&lt;", "\xff"}
	for n := range 5 {
		each(marks, n, func(s string) {
			checkTokens(t, s)
			checkTokens(t, "<a "+s)
		})
	}
	within := []string{"<", "/", "</xmp", ">", " ", "x", "&lt;"}
	for n := range 6 {
		each(within, n, func(s string) { checkTokens(t, "<xmp>"+s) })
	}
}

func TestTokensOfAnyTexts(t *testing.T) {
	random := rand.New(rand.NewSource(6))
	for range 30000 {
		checkTokens(t, anyTokenText(random, 30))
	}
	for range 20 {
		checkTokens(t, anyTokenText(random, 5000))
	}
}

// TestNextTokenAtAnyPlace begins within what TokensOf tells as one token, too.
func TestNextTokenAtAnyPlace(t *testing.T) {
	random := rand.New(rand.NewSource(7))
	for range 3000 {
		s := anyTokenText(random, 20)
		for place := range s {
			for _, raw := range []string{"", "style", "xmp", "p"} {
				got, code := impl.NextToken(s, place, raw)
				if want := tokenAt(s, place, raw); told(got) != told(want) || code != impl.OK {
					t.Errorf("NextToken(%q, %d, %q) = %s %d, want %s", s, place, raw, told(got), code, told(want))
				}
			}
		}
	}
}

// TestToldTagsAreOneToken writes tags as texts of trees do, and reads them back.
func TestToldTagsAreOneToken(t *testing.T) {
	for _, x := range append(rightTrees(), grownTrees(300)...) {
		for _, p := range listed(x) {
			if p.node.Kind != impl.NdElement {
				continue
			}
			tag := "<" + p.node.Name
			for _, a := range p.node.Attrs {
				tag += " " + a.Name + "=\"" + impl.EscapeValue(a.Value) + "\""
			}
			tag += ">"
			want := impl.Token{Kind: impl.TkOpen, Name: p.node.Name, Attrs: p.node.Attrs}
			for _, behind := range []string{"", ">", "\"", "</" + p.node.Name + ">"} {
				checkToken(t, tag, behind, "", want)
			}
			checkToken(t, "</"+p.node.Name+">", "", "", closing(p.node.Name))
		}
	}
}

func TestCodesOfNextToken(t *testing.T) {
	long, most := strings.Repeat("a", impl.MaxText+1), strings.Repeat("a", impl.MaxText)
	for i, v := range []struct {
		text string
		at   int
		raw  string
		want int
	}{
		{"", 0, "", impl.ErrSize}, {"", -1, "", impl.ErrSize}, {"", 1, "style", impl.ErrSize}, {"a", 1, "", impl.ErrSize}, {"a", 2, "", impl.ErrSize}, {"a", -1, "", impl.ErrSize},
		{"<b>", 3, "", impl.ErrSize}, {"<b>", math.MaxInt, "", impl.ErrSize}, {"<b>", math.MinInt, "", impl.ErrSize}, {"<b>", 1 << 32, "", impl.ErrSize}, {"<b>", -1 << 32, "", impl.ErrSize},
		{most, impl.MaxText, "", impl.ErrSize}, {most, impl.MaxText + 1, "", impl.ErrSize}, {"a", 1, "A", impl.ErrSize}, {"", 0, " ", impl.ErrSize}, {"a", -1, "thirteenlette", impl.ErrSize},
		{"a", 0, "A", impl.ErrName}, {"a", 0, " ", impl.ErrName}, {"a", 0, "Style", impl.ErrName}, {"a", 0, "style ", impl.ErrName}, {"a", 0, "x_y", impl.ErrName}, {"a", 0, "thirteenlette", impl.ErrName},
		{"a", 0, "1", impl.ErrName}, {"a", 0, "\xff", impl.ErrName}, {"a", 0, "\x00", impl.ErrName}, {"a", 0, ">", impl.ErrName}, {most, 0, most, impl.ErrName},
		{long, 0, "", impl.ErrLong}, {long, -1, "", impl.ErrLong}, {long, impl.MaxText + 1, "A", impl.ErrLong}, {"a", 0, long, impl.ErrLong}, {"", 0, long, impl.ErrLong}, {"a", 5, long, impl.ErrLong}, {long, 0, long, impl.ErrLong},
	} {
		got, code := impl.NextToken(v.text, v.at, v.raw)
		if code != v.want || !reflect.DeepEqual(got, impl.Token{}) {
			t.Errorf("%d: NextToken at %d, within %.20q = %s %d, want code %d", i, v.at, v.raw, told(got), code, v.want)
		}
	}
}

func TestTokensOfLongTexts(t *testing.T) {
	for _, v := range [][2]string{
		{"", "x"}, {"", "&lt;"}, {"<b>", "x"}, {"<!--", "-"}, {"<!", "x"}, {"</", "/"}, {"<", "b"}, {"</", "b"}, {"<a ", "b "}, {"<a ", "b='1' "}, {"<a b='", ">"}, {"<a b=", "x"}, {"<a b=", " "}, {"<a", "/"}, {"<a ", "="},
		{"<style>", "</style"}, {"<style>", "<"}, {"<style>", "</STYLE-"}, {"", "\xff"}, {"<a \xff='", "\xff"},
	} {
		s := v[0] + strings.Repeat(v[1], impl.MaxText+1)
		checkTokens(t, s[:impl.MaxText])
		checkTokens(t, s[:impl.MaxText-1]+">")
		tokens, code := impl.TokensOf(s[:impl.MaxText+1])
		if len(tokens) != 0 || code != impl.ErrLong {
			t.Errorf("TokensOf of more than MaxText bytes of %q: %d tokens, code %d", v, len(tokens), code)
		}
		token, code := impl.NextToken(s[:impl.MaxText], impl.MaxText-1, "")
		if want := placedAt(impl.MaxText-1, 1, wordsToken(s[impl.MaxText-1:impl.MaxText])); told(token) != told(want) || code != impl.OK {
			t.Errorf("NextToken at the last byte of MaxText = %s %d", told(token), code)
		}
	}
	for _, p := range []string{"<", "<b>", "<!>"} {
		if tokens, code := impl.TokensOf(strings.Repeat(p, impl.MaxText+1)); len(tokens) != 0 || code != impl.ErrLong {
			t.Errorf("TokensOf of far too many %q: %d tokens, code %d", p, len(tokens), code)
		}
	}
}

// TestMostTokens goes up to MaxList tokens and beyond by ones and by more.
func TestMostTokens(t *testing.T) {
	for _, v := range [][3]string{
		{"", "<", ""}, {"", "<b>", ""}, {"", "</b>", ""}, {"", "<!>", ""}, {"", "<b id=1>", ""}, {"", "<x_y>", ""}, {"", "x<b>", ""}, {"", "<xmp></xmp>", ""}, {"", "<xmp>a</xmp>", ""},
		{"x", "<", ""}, {"x", "<b>", ""}, {"<xmp>x</xmp>", "<b>", ""}, {"", "<b>", "x"}, {"", "<b>", "<b"}, {"", "<b>", "<xmp>x"}, {"", "<b>", "<xmp>x</xmp"}, {"", "<b>", "<xmp>x</xmp>"}, {"", "<b>", "<xmp></xmp>"},
	} {
		around, apiece := len(tokensBy(tokenAt, v[0]+v[2])), len(tokensBy(tokenAt, v[1]))
		for count := (impl.MaxList - around) / apiece; count*apiece+around <= impl.MaxList+4; count++ {
			tokens, code := impl.TokensOf(v[0] + strings.Repeat(v[1], count) + v[2])
			n, want := count*apiece+around, impl.OK
			if n > impl.MaxList {
				n, want = 0, impl.ErrMany
			}
			if len(tokens) != n || code != want {
				t.Errorf("TokensOf of %d times %q, around it %q and %q: %d tokens, code %d, want %d and %d", count, v[1], v[0], v[2], len(tokens), code, n, want)
			}
		}
	}
}
