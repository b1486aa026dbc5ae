package tests

import (
	"slices"
	"strings"
	"testing"

	"loop.example/g00788/impl"
)

// furnished has a document of each sort: one like others, raw ones with markup and without, a void one, and one that is banned but not raw. A sixth one is missing.
func furnished() impl.House {
	return housing(
		doc("div", withAttrs(element("p", words("a"), inSpace(1, "svg", inSpace(1, "g"))), "id", "x", "onclick", "y"), comment("c"), element("script", words("<b>")), element("u")),
		doc("style", words("d"), words("<e>&")), doc("br"), doc("object", element("b", words("f"))), doc("xmp", words("g>&\"")),
	)
}

// Its documents in brief.
const (
	divDoc    = `div{p id="x" onclick="y"["a" svg/svg[svg/g[]]] !"c" script["<b>"] u[]}`
	styleDoc  = `style{"d" "<e>&"}`
	objectDoc = `object{b["f"]}`
	xmpDoc    = `xmp{"g>&\""}`
	allBehind = " " + styleDoc + " br{} " + objectDoc + " " + xmpDoc
)

func TestDocsThatAreCreated(t *testing.T) {
	h := housing()
	told := ""
	for i, name := range strings.Fields("div style br script svg a-1234567890") {
		for n := range impl.MaxDocs {
			if n != i {
				checkRefused(t, h, creating(n, "p"), impl.ErrHandle)
				checkRefused(t, h, creating(n, "script"), impl.ErrHandle)
			}
		}
		told += " " + name + "{}"
		checkDone(t, h, creating(i, name), told[1:], "")
		h.Docs = append(h.Docs, doc(name))
	}
	for n := range impl.MaxDocs {
		checkRefused(t, h, creating(n, "p"), impl.ErrFull)
	}
	full := furnished()
	checkDone(t, full, creating(5, "div"), divDoc+allBehind+" div{}", "")
	full.Docs = append(full.Docs, doc("p", words("x")))
	checkRefused(t, full, creating(5, "p"), impl.ErrFull)
	for _, name := range tagMembers() {
		checkDone(t, impl.House{}, creating(0, name), name+"{}", "")
		checkRefused(t, impl.House{}, creating(1, name), impl.ErrHandle)
	}
}

// TestNoSuchDocOrConfig has all kinds but the first: what there is no such one of is told ahead of all else.
func TestNoSuchDocOrConfig(t *testing.T) {
	for many := range impl.MaxDocs {
		h := impl.House{Docs: docsNamed("script br style p div")[:many]}
		for n := range impl.MaxDocs {
			for _, c := range append(callsOn(n)[1:], addingWords(n, "", 9), addingAttr(n, "id", long(41)), taking(n), setting(n, 3, long(121)), settingUnsafely(n, long(121)), sanitizing(n, 3), addingElement(n, "b")) {
				if n >= many {
					checkRefused(t, h, c, impl.ErrHandle)
				} else if c.Kind == impl.ClSet || c.Kind == impl.ClSanitize {
					checkRefused(t, h, c, impl.ErrConfig)
				}
			}
		}
	}
	for many := range impl.MaxConfigs + 1 {
		h := impl.House{Docs: docsNamed("div style br script"), Configs: slices.Repeat([]impl.Config{config("comments")}, many)}
		for n := range impl.MaxConfigs {
			for place := range 4 {
				switch {
				case n >= many:
					checkRefused(t, h, setting(place, n, "x"), impl.ErrConfig)
					checkRefused(t, h, setting(place, n, bold(11)), impl.ErrConfig)
					checkRefused(t, h, setting(place, n, long(121)), impl.ErrConfig)
					checkRefused(t, h, sanitizing(place, n), impl.ErrConfig)
				case place == 3:
					checkRefused(t, h, setting(place, n, "x"), impl.ErrUnsafe)
					checkDone(t, h, sanitizing(place, n), briefDocs(h), "")
				default:
					checkDone(t, h, sanitizing(place, n), briefDocs(h), "")
				}
			}
		}
	}
	h := impl.House{Docs: []impl.Doc{doc("p", element("b"), element("i"), element("u"))}, Configs: []impl.Config{config("remove:b"), config("remove:i"), config("remove:u"), config("allow:")}}
	for n, left := range []string{"p{i[] u[]}", "p{b[] u[]}", "p{b[] i[]}", "p{}"} {
		checkDone(t, h, sanitizing(0, n), left, "")
		checkDone(t, h, setting(0, n, "<b></b><i></i><u>"), left, "")
	}
}

func TestElementsLaidIntoDocs(t *testing.T) {
	h := furnished()
	for _, v := range []struct {
		name string
		path []int
		want string
	}{
		{"b", []int{0}, `div{b[] p id="x" onclick="y"["a" svg/svg[svg/g[]]] !"c" script["<b>"] u[]}`},
		{"svg", []int{4}, `div{p id="x" onclick="y"["a" svg/svg[svg/g[]]] !"c" script["<b>"] u[] svg/svg[]}`},
		{"math", []int{0, 2}, `div{p id="x" onclick="y"["a" svg/svg[svg/g[]] math/math[]] !"c" script["<b>"] u[]}`},
		{"g", []int{0, 1, 0}, `div{p id="x" onclick="y"["a" svg/svg[g[] svg/g[]]] !"c" script["<b>"] u[]}`},
		{"math", []int{0, 1, 0, 0}, `div{p id="x" onclick="y"["a" svg/svg[svg/g[math/math[]]]] !"c" script["<b>"] u[]}`},
		{"script", []int{1}, `div{p id="x" onclick="y"["a" svg/svg[svg/g[]]] script[] !"c" script["<b>"] u[]}`},
		{"br", []int{3, 0}, `div{p id="x" onclick="y"["a" svg/svg[svg/g[]]] !"c" script["<b>"] u[br[]]}`},
		{"style", []int{3, 0}, `div{p id="x" onclick="y"["a" svg/svg[svg/g[]]] !"c" script["<b>"] u[style[]]}`},
		{"p", []int{3, 0}, `div{p id="x" onclick="y"["a" svg/svg[svg/g[]]] !"c" script["<b>"] u[p[]]}`},
	} {
		checkDone(t, h, addingElement(0, v.name, v.path...), v.want+allBehind, "")
	}
	checkDone(t, h, addingElement(3, "svg", 0, 1), divDoc+" "+styleDoc+` br{} object{b["f" svg/svg[]]} `+xmpDoc, "")
	for _, path := range [][]int{nil, {5}, {60}, {0, 3}, {1, 1}, {0, 0, 1}, {0, 0, 0, 0}, {4, 0}} {
		checkRefused(t, h, addingElement(0, "b", path...), impl.ErrPlace)
	}
	for _, path := range [][]int{{1, 0}, {0, 0, 0}, {2, 0}, {2, 1}} {
		checkRefused(t, h, addingElement(0, "b", path...), impl.ErrFull)
	}
	for _, name := range tagMembers() {
		space := map[string]string{"svg": "svg/", "math": "math/"}[name]
		checkDone(t, housing(doc("p")), addingElement(0, name, 0), "p{"+space+name+"[]}", "")
	}
	checkNoElements(t, h)
}

// checkNoElements has the raw and the void documents.
func checkNoElements(t *testing.T, h impl.House) {
	t.Helper()
	for _, name := range []string{"b", "br", "style", "svg", "math", "xmp"} {
		for _, path := range [][]int{{0}, {1}, {2}, {0, 0}, {1, 0}} {
			checkRefused(t, h, addingElement(1, name, path...), impl.ErrFull)
		}
		checkRefused(t, h, addingElement(2, name, 0), impl.ErrFull)
		checkRefused(t, h, addingElement(4, name, 1), impl.ErrFull)
		for place, paths := range map[int][][]int{1: {nil, {3}, {0, 1}, {2, 0}, {0, 0, 0}}, 2: {nil, {1}, {0, 0}}, 4: {nil, {2}, {1, 0}}} {
			for _, path := range paths {
				checkRefused(t, h, addingElement(place, name, path...), impl.ErrPlace)
			}
		}
	}
	for _, name := range strings.Fields(voidNames + " " + rawNames) {
		checkRefused(t, housing(doc(name)), addingElement(0, "b", 0), impl.ErrFull)
		checkRefused(t, housing(doc(name)), addingElement(0, name, 0), impl.ErrFull)
		checkRefused(t, housing(doc(name)), addingElement(0, "b", 1), impl.ErrPlace)
	}
}

func TestWordsLaidIntoDocs(t *testing.T) {
	h := furnished()
	rest := " br{} " + objectDoc + " " + xmpDoc
	checkDone(t, h, addingWords(0, "<N>", 4), divDoc[:len(divDoc)-1]+` "<N>"}`+allBehind, "")
	checkDone(t, h, addingWords(0, "N", 2, 1), `div{p id="x" onclick="y"["a" svg/svg[svg/g[]]] !"c" script["<b>" "N"] u[]}`+allBehind, "")
	checkDone(t, h, addingWords(0, long(120), 3, 0), `div{p id="x" onclick="y"["a" svg/svg[svg/g[]]] !"c" script["<b>"] u["`+long(120)+`"]}`+allBehind, "")
	checkDone(t, h, addingWords(1, "N", 0), divDoc+` style{"N" "d" "<e>&"}`+rest, "")
	checkDone(t, h, addingWords(1, "</style>", 2), divDoc+` style{"d" "<e>&" "</style>"}`+rest, "")
	for _, text := range []string{"x", " ", "\x00", "\xff\n", "&lt;", long(120), strings.Repeat("<", 120)} {
		for _, name := range append(strings.Fields(rawNames), "p", "object", "svg") {
			checkDone(t, housing(doc(name)), addingWords(0, text, 0), briefDocs(housing(doc(name, words(text)))), "")
			checkDone(t, housing(doc(name, words("a"))), addingWords(0, text, 1), briefDocs(housing(doc(name, words("a"), words(text)))), "")
		}
		for _, name := range strings.Fields(voidNames) {
			checkRefused(t, housing(doc(name)), addingWords(0, text, 0), impl.ErrFull)
			checkRefused(t, housing(doc(name)), addingWords(0, text, 1), impl.ErrPlace)
		}
		checkRefused(t, h, addingWords(1, text, 0, 0), impl.ErrFull)
		checkRefused(t, h, addingWords(1, text, 3), impl.ErrPlace)
		checkRefused(t, h, addingWords(0, text, 1, 0), impl.ErrFull)
	}
	for _, text := range []string{"", long(121), long(impl.MaxList)} {
		for place := range 5 {
			for _, path := range [][]int{{0}, nil, {9}, {0, 0}, {1, 0}} {
				checkRefused(t, h, addingWords(place, text, path...), impl.ErrBad)
			}
		}
	}
}

func TestAttrsSetInDocs(t *testing.T) {
	h := furnished()
	for _, v := range []struct {
		name, value string
		path        []int
		want        string
	}{
		{"id", "z", []int{0}, `div{p id="z" onclick="y"["a" svg/svg[svg/g[]]] !"c" script["<b>"] u[]}`},
		{"onclick", "", []int{0}, `div{p id="x" onclick=""["a" svg/svg[svg/g[]]] !"c" script["<b>"] u[]}`},
		{"href", " javascript:", []int{3}, `div{p id="x" onclick="y"["a" svg/svg[svg/g[]]] !"c" script["<b>"] u href=" javascript:"[]}`},
		{"src", long(40), []int{2}, `div{p id="x" onclick="y"["a" svg/svg[svg/g[]]] !"c" script src="` + long(40) + `"["<b>"] u[]}`},
		{"id", "\"<\xff", []int{0, 1, 0}, `div{p id="x" onclick="y"["a" svg/svg[svg/g id="\"<\xff"[]]] !"c" script["<b>"] u[]}`},
	} {
		checkDone(t, h, addingAttr(0, v.name, v.value, v.path...), v.want+allBehind, "")
	}
	for n := range 5 {
		for _, value := range []string{long(41), long(impl.MaxList), "javascript:" + long(30)} {
			for _, path := range [][]int{{0}, {1}, nil, {9}, {0, 0}} {
				checkRefused(t, h, addingAttr(n, "href", value, path...), impl.ErrBad)
			}
		}
		for _, path := range [][]int{nil, {4}, {60}, {0, 2}, {1, 0}} {
			checkRefused(t, h, addingAttr(n, "id", "x", path...), impl.ErrPlace)
		}
	}
	for place, paths := range map[int][][]int{0: {{1}, {0, 0}, {2, 0}}, 1: {{0}, {1}}, 3: {{0, 0}}, 4: {{0}}} {
		for _, path := range paths {
			checkRefused(t, h, addingAttr(place, "id", "x", path...), impl.ErrKind)
		}
	}
	checkRefused(t, h, addingAttr(2, "id", "x", 0), impl.ErrPlace)
	six := withAttrs(element("a"), "a", "", "b", "", "c", "", "d", "", "e", "", "f", "")
	checkRefused(t, housing(doc("p", six)), addingAttr(0, "g", "", 0), impl.ErrFull)
	checkDone(t, housing(doc("p", six)), addingAttr(0, "f", "x", 0), `p{a a="" b="" c="" d="" e="" f="x"[]}`, "")
}

func TestNodesTakenFromDocs(t *testing.T) {
	h := furnished()
	for _, v := range []struct {
		place int
		path  []int
		want  string
	}{
		{0, []int{0}, `div{!"c" script["<b>"] u[]}` + allBehind},
		{0, []int{1}, `div{p id="x" onclick="y"["a" svg/svg[svg/g[]]] script["<b>"] u[]}` + allBehind},
		{0, []int{0, 1}, `div{p id="x" onclick="y"["a"] !"c" script["<b>"] u[]}` + allBehind},
		{0, []int{2, 0}, `div{p id="x" onclick="y"["a" svg/svg[svg/g[]]] !"c" script[] u[]}` + allBehind},
		{1, []int{0}, divDoc + ` style{"<e>&"} br{} ` + objectDoc + " " + xmpDoc},
		{1, []int{1}, divDoc + ` style{"d"} br{} ` + objectDoc + " " + xmpDoc},
		{3, []int{0}, divDoc + " " + styleDoc + ` br{} object{} ` + xmpDoc},
		{3, []int{0, 0}, divDoc + " " + styleDoc + ` br{} object{b[]} ` + xmpDoc},
		{4, []int{0}, divDoc + " " + styleDoc + ` br{} ` + objectDoc + " xmp{}"},
	} {
		checkDone(t, h, taking(v.place, v.path...), v.want, "")
	}
	for place, paths := range map[int][][]int{0: {nil, {4}, {60}, {1, 0}, {0, 2}}, 1: {nil, {2}, {0, 0}, {1, 0}}, 2: {nil, {0}, {1}, {0, 0}}, 3: {{1}, {0, 1}}, 4: {{1}, {0, 0}}} {
		for _, path := range paths {
			checkRefused(t, h, taking(place, path...), impl.ErrPlace)
		}
	}
}

// TestTextsSetInDocs has the Kids that a text means, as they are and sanitized, in one document behind another.
func TestTextsSetInDocs(t *testing.T) {
	for _, v := range []struct{ name, text, unsafely, byDefault, byComments string }{
		{"div", "", "", "", ""},
		{"div", "a<b", `"a"`, `"a"`, `"a"`},
		{"div", "a<b>c</b><!--d--><u id=e onclick=f>g<script>h</script><!--a--b-->", `"a" b["c"] !"d" u id="e" onclick="f"["g" script["h"] !"a--b"]`, `"a" b["c"]`, `"a" b["c"] !"d" u id="e"["g"]`},
		{"p", "<p>a<p>b</p>c", `p["a"] p["b"] "c"`, `p["a"] p["b"] "c"`, `p["a"] p["b"] "c"`},
		{"li", "<li>a</ul><br><svg><g/>", `li["a" br[] svg/svg[svg/g[]]]`, `li["a" br[]]`, `li["a" br[] svg/svg[svg/g[]]]`},
		{"svg", "<g/>a<style><b>", `g["a" style["<b>"]]`, "", `g["a"]`},
		{"math", "<mi><p><a href=x id=y onx=z>b", `mi[p[a href="x" id="y" onx="z"["b"]]]`, "", `mi[p[a href="x" id="y"["b"]]]`},
		{"title", "<style>a</style><style>b<c</style>&lt;", `style["a"] style["b<c"] "<"`, `"<"`, `style["a"] "<"`},
		{"style", "", "", "", ""},
		{"style", "a>b&lt;", `"a>b&lt;"`, `"a>b&lt;"`, `"a>b&lt;"`},
		{"style", "a<b", `"a<b"`, "", ""},
		{"xmp", "<", `"<"`, "", ""},
		{"xmp", "</xmp><script>", `"</xmp><script>"`, "", ""},
		{"xmp", long(120), `"` + long(120) + `"`, `"` + long(120) + `"`, `"` + long(120) + `"`},
		{"br", "", "", "", ""},
		{"br", "a<b>", "", "", ""},
		{"input", bold(11), "", "", ""},
		{"hr", breaks(61) + long(121), "", "", ""},
	} {
		for _, ahead := range [][]impl.Node{nil, aheadIn(v.name)} {
			h := housing(doc("p", words("x")), doc(v.name, ahead...), doc("style"))
			told := func(kids string) string { return `p{"x"} ` + v.name + "{" + kids + "} style{}" }
			checkDone(t, h, settingUnsafely(1, v.text), told(v.unsafely), "")
			checkDone(t, h, setting(1, 0, v.text), told(v.byDefault), "")
			checkDone(t, h, setting(1, 1, v.text), told(v.byComments), "")
		}
	}
}

// aheadIn is what is in a document of that name ahead of a call: as much as may be.
func aheadIn(name string) []impl.Node {
	switch {
	case among(voidNames, name):
		return nil
	case among(rawNames, name):
		return tree(words("<ahead>"), words("ahead"))
	}
	return tree(element("script"), words("ahead"), comment("-->"))
}

// TestTextsSetInBannedDocs has ErrUnsafe ahead of what else there is, but for what the call has no document or configuration for.
func TestTextsSetInBannedDocs(t *testing.T) {
	for _, name := range strings.Fields(bannedNames) {
		for _, ahead := range [][]impl.Node{nil, aheadIn(name)} {
			h := housing(doc("p"), doc(name, ahead...))
			for _, text := range []string{"", "x", "<b>", bold(11), breaks(61), long(121), long(impl.MaxList)} {
				for n := range 2 {
					checkRefused(t, h, setting(1, n, text), impl.ErrUnsafe)
				}
				checkRefused(t, h, setting(1, 2, text), impl.ErrConfig)
				checkRefused(t, h, setting(2, 0, text), impl.ErrHandle)
			}
			made := map[bool]string{true: `"<b>"`, false: `b[]`}[among(rawNames, name)]
			if among(voidNames, name) {
				made = ""
			}
			checkDone(t, h, settingUnsafely(1, "<b>"), "p{} "+name+"{"+made+"}", "")
		}
		if !among(voidNames, name) {
			checkDone(t, housing(doc(name, words("x"), words("y"))), sanitizing(0, 0), name+`{"x" "y"}`, "")
			checkDone(t, housing(doc(name)), addingWords(0, "x", 0), name+`{"x"}`, "")
		}
	}
	for _, name := range strings.Fields("style xmp p on svg frames scripts uses b") {
		checkDone(t, housing(doc(name)), setting(0, 1, "x"), name+`{"x"}`, "")
	}
}

// TestTextsThatDocsMayNotHave mean more than a tree may have; of a void one they mean nothing.
func TestTextsThatDocsMayNotHave(t *testing.T) {
	for text, due := range map[string]int{
		bold(11): impl.ErrDeep, bold(10) + "x": impl.ErrDeep, breaks(61): impl.ErrMany, long(121): impl.ErrSize, "<!--" + long(121) + "-->": impl.ErrSize, "<script>" + long(121): impl.ErrSize,
		long(impl.MaxList): impl.ErrSize, breaks(61) + long(121): impl.ErrMany, bold(11) + breaks(61): impl.ErrDeep, long(60) + "</b>" + long(61): impl.ErrSize,
	} {
		for _, name := range strings.Fields("div svg math title") {
			h := housing(doc(name, aheadIn(name)...))
			checkRefused(t, h, settingUnsafely(0, text), due)
			checkRefused(t, h, setting(0, 0, text), due)
			checkRefused(t, h, setting(0, 1, text), due)
		}
		rawDue := impl.OK
		if len(text) > impl.MaxWords {
			rawDue = impl.ErrSize
		}
		for _, name := range strings.Fields("style xmp") {
			h := housing(doc(name, aheadIn(name)...))
			if rawDue != impl.OK {
				checkRefused(t, h, settingUnsafely(0, text), rawDue)
				checkRefused(t, h, setting(0, 0, text), rawDue)
			} else {
				checkDone(t, h, settingUnsafely(0, text), briefDocs(housing(doc(name, words(text)))), "")
				checkDone(t, h, setting(0, 0, text), name+"{}", "")
			}
		}
		checkDone(t, housing(doc("br")), settingUnsafely(0, text), "br{}", "")
		checkDone(t, housing(doc("br")), setting(0, 0, text), "br{}", "")
	}
	full := strings.Repeat("</b>", 1024)
	checkDone(t, furnished(), settingUnsafely(0, full), "div{}"+allBehind, "")
	checkDone(t, furnished(), setting(0, 1, full), "div{}"+allBehind, "")
	checkDone(t, housing(doc("p")), setting(0, 1, breaks(60)), "p{"+strings.TrimSpace(strings.Repeat("br[] ", 60))+"}", "")
	checkDone(t, housing(doc("p")), setting(0, 1, bold(10)), "p{"+brief(nested(10))+"}", "")
	checkDone(t, housing(doc("p")), settingUnsafely(0, bold(10)), "p{"+brief(nested(10))+"}", "")
}

func TestDocsThatAreSanitized(t *testing.T) {
	h := furnished()
	checkDone(t, h, sanitizing(0, 0), `div{p id="x"["a"]}`+allBehind, "")
	checkDone(t, h, sanitizing(0, 1), `div{p id="x"["a" svg/svg[svg/g[]]] !"c" u[]}`+allBehind, "")
	for n := range 2 {
		checkDone(t, h, sanitizing(1, n), divDoc+" style{} br{} "+objectDoc+" "+xmpDoc, "")
		checkDone(t, h, sanitizing(2, n), divDoc+allBehind, "")
		checkDone(t, h, sanitizing(3, n), divDoc+allBehind, "")
		checkDone(t, h, sanitizing(4, n), divDoc+allBehind, "")
	}
	for _, name := range strings.Fields(rawNames) {
		for _, v := range []struct {
			kids []impl.Node
			left string
		}{
			{nil, ""}, {tree(words("a")), `"a"`}, {tree(words("a>&lt;"), words("b")), `"a>&lt;" "b"`}, {tree(words("<")), ""}, {tree(words("a"), words("b<"), words("c")), ""}, {tree(words("<a"), words("b")), ""},
			{tree(words("a"), words("</"+name+">")), ""}, {repeated(words("x"), 60), brief(repeated(words("x"), 60))}, {append(repeated(words("x"), 59), words("<")), ""},
		} {
			for _, told := range []string{"", "allow:", "allow: attrs:", "remove:" + name, "unwrap:" + name, "comments"} {
				h := impl.House{Docs: []impl.Doc{doc(name, v.kids...)}, Configs: []impl.Config{config(told)}}
				checkDone(t, h, sanitizing(0, 0), name+"{"+v.left+"}", "")
			}
		}
		foreign := housing(doc("svg", inSpace(1, name, words("<"))), doc("p", element(name, words("<"))))
		checkDone(t, foreign, sanitizing(1, 1), briefDocs(housing(foreign.Docs[0], doc("p"))), "")
	}
	by := impl.House{Docs: []impl.Doc{doc("b", element("b", words("x")), element("p", element("b")))}, Configs: []impl.Config{config("unwrap:b"), config("remove:b"), config("allow:p,b"), config("")}}
	checkDone(t, by, sanitizing(0, 0), `b{"x" p[]}`, "")
	checkDone(t, by, sanitizing(0, 1), `b{p[]}`, "")
	checkDone(t, by, sanitizing(0, 2), `b{b["x"] p[b[]]}`, "")
	checkDone(t, by, sanitizing(0, 3), `b{b["x"] p[b[]]}`, "")
}

func TestTextsOfDocs(t *testing.T) {
	h := furnished()
	same := divDoc + allBehind
	checkDone(t, h, getting(0), same, `<p id="x" onclick="y">a<svg><g></g></svg></p><!--c--><script><b></script><u></u>`)
	checkDone(t, h, getting(1), same, "d<e>&")
	checkDone(t, h, getting(2), same, "")
	checkDone(t, h, getting(3), same, "<b>f</b>")
	checkDone(t, h, getting(4), same, `g>&"`)
	for _, v := range []struct {
		d    impl.Doc
		want string
	}{
		{doc("p"), ""}, {doc("p", words("<&>\"\xff")), "&lt;&amp;&gt;\"\xff"}, {doc("p", comment("-->")), "<!---->-->"}, {doc("svg", words("<")), "&lt;"}, {doc("title", words("<")), "&lt;"},
		{doc("p", element("br"), inSpace(1, "br")), "<br><br></br>"}, {doc("p", element("style", words("<&")), inSpace(1, "style", words("<&"))), "<style><&</style><style>&lt;&amp;</style>"},
		{doc("style"), ""}, {doc("style", words("&lt;"), words("<"), words("\xff\x00")), "&lt;<\xff\x00"}, {doc("xmp", words("</xmp>")), "</xmp>"}, {doc("script", words("a"), words("&b\"")), "a&b\""}, {doc("iframe", words("<p>")), "<p>"},
	} {
		checkDone(t, housing(v.d), getting(0), briefDocs(housing(v.d)), v.want)
	}
	for _, nodes := range [][]impl.Node{sized(2220), sized(65536), sized(65537), sized(77820), growing(), repeated(words(strings.Repeat("&", 120)), 60)} {
		h := housing(doc("div", nodes...))
		checkDone(t, h, getting(0), briefDocs(h), writtenBy(nodes))
	}
	for _, nodes := range slices.Concat(rightTrees(), grownTrees(60), brokenTrees(60)) {
		h := housing(doc("div", nodes...))
		checkDone(t, h, getting(0), briefDocs(h), writtenBy(nodes))
	}
	raw := housing(doc("style", repeated(words(strings.Repeat("<", 120)), 60)...))
	checkDone(t, raw, getting(0), briefDocs(raw), strings.Repeat("<", 7200))
}
