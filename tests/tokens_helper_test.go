package tests

import (
	"math/rand"
	"regexp"
	"strconv"
	"strings"

	"loop.example/g00788/impl"
)

const blankBytes = " \t\n\f\r"

func isBlank(c byte) bool { return strings.IndexByte(blankBytes, c) >= 0 }

// lowered goes by bytes, as the letters of chapter 5 are those of ASCII alone.
func lowered(t []byte) string {
	low := append([]byte(nil), t...)
	for i, c := range low {
		if 'A' <= c && c <= 'Z' {
			low[i] += 32
		}
	}
	return string(low)
}

var (
	tagForm     = regexp.MustCompile(`\A</?[a-zA-Z]`)
	closeForm   = regexp.MustCompile(`\A</([a-zA-Z][^ \t\n\f\r/>]*)[^>]*>`)
	commentForm = regexp.MustCompile(`(?s)\A<!--(.*?)(?:-->|\z)`)
	remarkForm  = regexp.MustCompile(`\A<[!?/]([^>]*)(?:>|\z)`)
	wordsForm   = regexp.MustCompile(`(?s)\A.[^<]*`)
)

var rawForms = map[string]*regexp.Regexp{
	"style": rawForm("style"), "script": rawForm("script"), "xmp": rawForm("xmp"), "iframe": rawForm("iframe"), "p": rawForm("p"),
}

// rawForm spells both sizes of each letter out: where a pattern does not tell
// them apart, it takes letters beyond ASCII for some of them, too.
func rawForm(name string) *regexp.Regexp {
	form := `(?s)\A(.*?)(?:</`
	for _, c := range strings.Split(name, "") {
		form += "[" + c + strings.ToUpper(c) + "]"
	}
	return regexp.MustCompile(form + `[ \t\n\f\r/>]|\z)`)
}

// tokenAt reads chapter 5 in another way than the program: by patterns, and tags byte by byte.
func tokenAt(t string, at int, raw string) impl.Token {
	rest := t[at:]
	token := tokenAhead(rest, raw)
	if (token.Kind == impl.TkOpen || token.Kind == impl.TkClose) && !tagName.MatchString(token.Name) {
		token = impl.Token{Kind: impl.TkNothing, Len: token.Len}
	}
	token.At = at
	return token
}

func tokenAhead(t, raw string) impl.Token {
	if raw != "" {
		if words := rawForms[raw].FindStringSubmatch(t)[1]; words != "" {
			return impl.Token{Kind: impl.TkWords, Len: len(words), Text: words}
		}
	}
	letter := tagForm.MatchString(t)
	if letter && t[1] == '/' {
		if told := closeForm.FindStringSubmatch(t); told != nil {
			return impl.Token{Kind: impl.TkClose, Len: len(told[0]), Name: lowered([]byte(told[1]))}
		}
		return impl.Token{Kind: impl.TkNothing, Len: len(t)}
	}
	if letter {
		return openTag(t)
	}
	for _, form := range []*regexp.Regexp{commentForm, remarkForm} {
		if told := form.FindStringSubmatch(t); told != nil {
			return impl.Token{Kind: impl.TkComment, Len: len(told[0]), Text: told[1]}
		}
	}
	words := wordsForm.FindString(t)
	return impl.Token{Kind: impl.TkWords, Len: len(words), Text: unescaped(words)}
}

// A tagReader is in one place of a tag at each of its bytes.
type tagReader struct {
	place             string
	name, attr, value []byte
	quote             byte
	slash             bool
	attrs             []impl.Attr
}

func openTag(t string) impl.Token {
	r := tagReader{place: "name"}
	for i := 1; i < len(t); i++ {
		if r.place != "in quotes" && t[i] == '>' {
			r.endAttr()
			return impl.Token{Kind: impl.TkOpen, Len: i + 1, Name: lowered(r.name), Attrs: r.attrs, Self: r.slash}
		}
		r.read(t[i])
	}
	return impl.Token{Kind: impl.TkNothing, Len: len(t)}
}

func (r *tagReader) read(c byte) {
	r.slash = false
	switch r.place {
	case "name", "between":
		r.readBetween(c)
	case "attr", "behind attr":
		r.readAttr(c)
	default:
		r.readValue(c)
	}
}

func (r *tagReader) readBetween(c byte) {
	switch {
	case isBlank(c) || c == '/':
		r.place, r.slash = "between", c == '/'
	case r.place == "name":
		r.name = append(r.name, c)
	default:
		r.place = "attr"
		r.attr = append(r.attr, c)
	}
}

func (r *tagReader) readAttr(c byte) {
	switch {
	case c == '=':
		r.place = "ahead of value"
	case isBlank(c):
		r.place = "behind attr"
	case c == '/' || r.place == "behind attr":
		r.endAttr()
		r.readBetween(c)
	default:
		r.attr = append(r.attr, c)
	}
}

func (r *tagReader) readValue(c byte) {
	quotes, ahead := c == '"' || c == '\'', r.place == "ahead of value"
	switch {
	case ahead && quotes:
		r.place, r.quote = "in quotes", c
	case r.place == "in quotes" && c == r.quote, r.place == "value" && isBlank(c):
		r.endAttr()
	case r.place == "in quotes":
		r.value = append(r.value, c)
	case !ahead || !isBlank(c):
		r.place = "value"
		r.value = append(r.value, c)
	}
}

func (r *tagReader) endAttr() {
	a := impl.Attr{Name: lowered(r.attr), Value: unescaped(string(r.value))}
	fits := len(r.attrs) < 6 && len(a.Value) <= 40 && tagName.MatchString(a.Name)
	for _, other := range r.attrs {
		fits = fits && other.Name != a.Name
	}
	if fits {
		r.attrs = append(r.attrs, a)
	}
	r.place, r.attr, r.value = "between", nil, nil
}

// tokensBy reads a text with one of the two readings, as far as MaxList allows.
func tokensBy(next func(t string, at int, raw string) impl.Token, t string) []impl.Token {
	var tokens []impl.Token
	raw := ""
	for at := 0; at < len(t); {
		token := next(t, at, raw)
		tokens = append(tokens, token)
		at += max(token.Len, 1)
		raw = ""
		if token.Kind == impl.TkOpen && strings.Contains(" style script xmp iframe ", " "+token.Name+" ") {
			raw = token.Name
		}
	}
	return tokens
}

// told tells tokens apart; nil and empty lists are alike in it.
func told(tokens ...impl.Token) string {
	var all strings.Builder
	for _, x := range tokens {
		all.WriteString(strconv.Itoa(x.Kind) + " " + strconv.Itoa(x.At) + "+" + strconv.Itoa(x.Len) + " " + strconv.Quote(x.Name) + " " + strconv.Quote(x.Text))
		for _, a := range x.Attrs {
			all.WriteString(" " + strconv.Quote(a.Name) + "=" + strconv.Quote(a.Value))
		}
		all.WriteString(" " + strconv.FormatBool(x.Self) + "; ")
	}
	return all.String()
}

// endedTags are open tags, each of which ends with its last byte.
func endedTags() []string {
	return []string{
		"<b>", "<B>", "<b/>", "<b />", "<b / >", "<b//>", "<a href=x>", "<a href=x/>", "<a href='x'/>", `<a href="x" />`, "<a href/>", "<a href />", "<a/href>", "<a href=/>",
		`<a title="a>b">`, "<a title='a>b'>", `<a title="'" id='"'>`, `<a title=">" id='>' class=x>`, "<a title=''>", `<a title="">`, "<a title=>", "<a title= >", "<a title = >",
		"<a\tid\n=\f'x'\r>", "<a id=1 ID=2 x_y=3 =z =>", "<a ==x>", "<a =id=x>", "<a id==x>", "<a id=x=y>", "<a id = = x>", "<a 'x' \"y\">", "<a id=x'y\"z>", "<a id='x'title=\"y\"class>",
		"<a id=&lt;&#65;&amp;lt;>", "<a id='&quot;&gt;'>", "<a a b c d e f g>", "<x_y id='>'>", "<toolongatagname>", "<a<b>", "<a<b c='<d>'>", "<aé >", "<a\xff>", "<a \xff=\xff>", "<a\x00b>", "<a\vb>",
		"<style>", "<SCRIPT src='x'>", "<xmp/>", "<br/>", "<svg viewbox=1>", "<a id=1/title=2>", "<a id = '1' / title = \"2\" / >", "<a id='&#62'>", "<a / / id / / >",
	}
}

// tokenTexts are texts of all kinds of tokens, right and wrong ones, and ones that are not UTF-8.
func tokenTexts() []string {
	texts := []string{
		"", "a", "a&lt;b", "<", "<<", "<<b>", "a<", "< b>", "<1>", "<>", "<=>", "<_a>", "<\xff>", "<é>", "<&lt;b>", "&lt;b>", "a>b", "\x00<b>\x00",
		"<!>", "<!", "<!-", "<!->", "<!--", "<!-->", "<!--->", "<!---->", "<!----->", "<!-->-->", "<!--a-->b", "<!--a--!>b-->c", "<!--a->b", "<!--&lt;-->", "<!--<b>--></b>", "<! --a-->", "<!x>y", "<!DOCTYPE p>z",
		"<?", "<?>", "<?x?>y", "<?x", "</", "</>", "</ b>", "</1>", "</\xff>", "</!--a-->", "</b>", "</B>", "</b c='>'>", "</b/>", "</b /x>", "</b", "</b c", "</x_y>z", "</b<c>", "</toolongatagname>", "</style>", "</a\x00>",
		"<p>a<style><b></style>c</p><!--d-->", "<style></style>", "<style></STYLE\n>", "<style>&lt;</style/x>&lt;", "<style></styles></style >", "<style></style", "<style><!--</style>-->", "<style></xmp></style>", "<style></ style></style>",
		"<style><</style>", "<style></</style>", "<style>", "<style", "<style/></b></style>", "<style><style></style></style>", "<xmp><b></xmp><b>", "<script>a</scrIpt\tx>b", "<iframe>a</IFRAME>", "<style>a</style/", "<style>\xff</\xc5\xbftyle></style>",
		"<title><b></title>", "</style><b></style>", "<svg><style><b></style>", "<x_style></b>", "<style id='><b></style>", "<STYLE ID='>'><b></style>",
	}
	for _, tag := range endedTags() {
		texts = append(texts, tag, tag+tag, "x"+tag+"y", tag[:len(tag)-1], tag[:len(tag)-1]+"<b>", tag[:len(tag)-1]+"'", "<style>"+tag+"</style>"+tag)
	}
	return texts
}

// tokenPieces are what texts of tokens are made of by chance.
func tokenPieces() []string {
	return []string{
		"<", ">", "/", "=", "'", "\"", " ", "\t", "\n", "\f", "\r", "\v", "!", "?", "-", "--", "<!--", "-->", "</", "a", "B", "z-9", "_", "&", ";", "&lt;", "&gt;", "&quot;", "&#65;", "\x00", "\xff", "é",
		"<p", "<a ", "</p>", "<style>", "</style>", "</STYLE ", "</style", "<XMP ", "</xmp/", "id", "href=", "title='", "class=\"", "onclick", "longattrname-13", "<x_y ", "1234567890123456789012345678901234567890",
	}
}

func anyTokenText(random *rand.Rand, most int) string {
	pieces := tokenPieces()
	var text strings.Builder
	for range random.Intn(most + 1) {
		if random.Intn(20) == 0 {
			text.WriteByte(byte(random.Intn(256)))
			continue
		}
		text.WriteString(pieces[random.Intn(len(pieces))])
	}
	return text.String()
}
