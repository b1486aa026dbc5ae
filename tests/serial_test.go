package tests

import (
	"math/rand"
	"slices"
	"strings"
	"testing"

	"loop.example/g00788/impl"
)

func checkStartTag(t *testing.T, x impl.Node, want string, due int) {
	t.Helper()
	if got, code := impl.StartTag(x); got != want || code != due {
		t.Errorf("StartTag(%.80q of kind %d, space %d) = %.100q, %d, want %.100q, %d", x.Name, x.Kind, x.Space, got, code, want, due)
	}
}

func TestStartTags(t *testing.T) {
	sixth := withAttrs(element("img"), "a", "1", "b", "", "c", "&", "d-9", "'", "e", "<", "twelveletter", ">")
	for _, v := range []struct {
		x    impl.Node
		want string
	}{
		{element("p"), "<p>"},
		{element("a-1234567890"), "<a-1234567890>"},
		{inSpace(impl.SpSvg, "g"), "<g>"},
		{inSpace(impl.SpMath, "mi"), "<mi>"},
		{element("br"), "<br>"},
		{inSpace(impl.SpMath, "br", words("x")), "<br>"},
		{element("style", words("<b>")), "<style>"},
		{element("div", element("b"), words("x"), comment("y")), "<div>"},
		{withAttrs(element("a"), "href", ""), `<a href="">`},
		{withAttrs(element("a"), "href", "x y"), `<a href="x y">`},
		{withAttrs(element("a"), "href", `"&<>'`), `<a href="&quot;&amp;&lt;&gt;'">`},
		{withAttrs(element("a"), "href", "&amp;&#65;"), `<a href="&amp;amp;&amp;#65;">`},
		{withAttrs(element("b"), "b", "1", "a", "2"), `<b b="1" a="2">`},
		{withAttrs(inSpace(impl.SpSvg, "style"), "on", "\x00\xff\n"), "<style on=\"\x00\xff\n\">"},
		{withAttrs(element("b"), "a", strings.Repeat("v", 40)), `<b a="` + strings.Repeat("v", 40) + `">`},
		{withAttrs(element("b"), "a", strings.Repeat(`"`, 40), "c", strings.Repeat("é", 20)), `<b a="` + strings.Repeat("&quot;", 40) + `" c="` + strings.Repeat("é", 20) + `">`},
		{sixth, `<img a="1" b="" c="&amp;" d-9="'" e="&lt;" twelveletter="&gt;">`},
	} {
		checkStartTag(t, v.x, v.want, impl.OK)
	}
	for c := range 256 {
		value := string([]byte{'x', byte(c)})
		checkStartTag(t, withAttrs(element("b"), "a", value), `<b a="`+escapedValue(value)+`">`, impl.OK)
	}
	for _, name := range tagMembers() {
		for space := range 3 {
			checkStartTag(t, withAttrs(inSpace(space, name), name, name), "<"+name+" "+name+`="`+name+`">`, impl.OK)
		}
	}
}

// kidsOfAnySort are Kids that are no tree, and some that are one.
func kidsOfAnySort() [][]impl.Node {
	kids := append(hugeTrees(), longTrees()...)
	kids = append(kids, nil, tree(), tree(words("x")), tree(comment("-->")), tree(element("b", element("br"))), nested(impl.MaxDepth), nested(impl.MaxDepth+1), repeated(words("x"), impl.MaxNodes+1))
	for _, x := range wrongNodes() {
		kids = append(kids, tree(x), tree(words("x"), x))
	}
	return kids
}

// TestStartTagsLeaveKidsAside has nodes of each Kind, and such as are none, with Kids of any sort.
func TestStartTagsLeaveKidsAside(t *testing.T) {
	for _, kids := range kidsOfAnySort() {
		for _, name := range []string{"p", "br", "style", "svg"} {
			for space := range 3 {
				checkStartTag(t, withAttrs(inSpace(space, name, kids...), "id", "<"), "<"+name+` id="&lt;">`, impl.OK)
			}
			checkStartTag(t, inSpace(3, name, kids...), "", impl.ErrBad)
		}
		for _, x := range []impl.Node{words("x"), comment("x"), comment("")} {
			x.Kids = kids
			checkStartTag(t, x, "", impl.ErrKind)
		}
		for _, x := range []impl.Node{{}, words(""), element("P"), withAttrs(element("p"), "id", "", "id", "")} {
			x.Kids = kids
			checkStartTag(t, x, "", impl.ErrBad)
		}
	}
}

func TestNoStartTags(t *testing.T) {
	for _, x := range []impl.Node{words("x"), words(strings.Repeat("w", impl.MaxWords)), words("<p>"), words("\xff"), comment(""), comment("x"), comment("-->")} {
		checkStartTag(t, x, "", impl.ErrKind)
	}
	bad := 0
	for _, x := range wrongNodes() {
		switch {
		case !standsAlone(x):
			bad++
			checkStartTag(t, x, "", impl.ErrBad)
		case x.Kind == impl.NdElement:
			checkStartTag(t, x, tagBy(x), impl.OK)
		default:
			checkStartTag(t, x, "", impl.ErrKind)
		}
	}
	if bad < 40 {
		t.Error("too few nodes that are none", bad)
	}
	long := strings.Repeat("a", impl.MaxText+1)
	for _, x := range []impl.Node{element(long), words(long), comment(long), withAttrs(element("b"), long, ""), withAttrs(element("b"), "a", long), {Kind: impl.NdElement, Name: "b", Attrs: make([]impl.Attr, impl.MaxList+1)}} {
		checkStartTag(t, x, "", impl.ErrBad)
	}
}

// A textOfTree is a tree with its text, and what that means, in brief.
type textOfTree struct {
	nodes       []impl.Node
	text, meant string
}

// checkTextsOfTrees holds that a tree is stable just if what its text means is told as it is.
func checkTextsOfTrees(t *testing.T, list []textOfTree) {
	t.Helper()
	for _, v := range list {
		meant, code := impl.Reparse(v.nodes)
		if brief(meant) != v.meant || code != impl.OK {
			t.Errorf("Reparse(%.200s) = %.200s, %d, want %.200s", brief(v.nodes), brief(meant), code, v.meant)
		}
		checkMeaning(t, v.nodes, meaning{v.text, meant, brief(v.nodes) == v.meant, impl.OK})
	}
}

// checkStable takes trees that are what their texts mean.
func checkStable(t *testing.T, list []textOfTree) {
	t.Helper()
	for i := range list {
		list[i].meant = brief(list[i].nodes)
	}
	checkTextsOfTrees(t, list)
}

func TestTreesThatAreWhatTheirTextsMean(t *testing.T) {
	svg, math := func(kids ...impl.Node) []impl.Node { return tree(inSpace(1, "svg", kids...)) }, func(kids ...impl.Node) []impl.Node { return tree(inSpace(2, "math", kids...)) }
	checkStable(t, []textOfTree{
		{nodes: nil, text: ""},
		{nodes: tree(words("x")), text: "x"},
		{nodes: tree(words(`a<b>&"'`)), text: `a&lt;b&gt;&amp;"'`},
		{nodes: tree(words("&lt;&amp;&#60;")), text: "&amp;lt;&amp;amp;&amp;#60;"},
		{nodes: tree(words("\x00\xff\n é")), text: "\x00\xff\n é"},
		{nodes: tree(words("<!--x--></p>")), text: "&lt;!--x--&gt;&lt;/p&gt;"},
		{nodes: tree(words(strings.Repeat("&", 120))), text: strings.Repeat("&amp;", 120)},
		{nodes: tree(element("p", words("x"))), text: "<p>x</p>"},
		{nodes: tree(element("p"), words("x"), element("p")), text: "<p></p>x<p></p>"},
		{nodes: tree(element("p", element("br"), words("x"), element("b", words("y")))), text: "<p><br>x<b>y</b></p>"},
		{nodes: tree(withAttrs(element("a", words("x")), "href", `<"&>'`, "id", "")), text: `<a href="&lt;&quot;&amp;&gt;'" id="">x</a>`},
		{nodes: tree(withAttrs(element("img"), "a", "1", "b", " ", "c", "/", "d", "\xff", "e", "=", "f", "\n")), text: "<img a=\"1\" b=\" \" c=\"/\" d=\"\xff\" e=\"=\" f=\"\n\">"},
		{nodes: tree(element("p", element("b", element("p")))), text: "<p><b><p></p></b></p>"},
		{nodes: tree(element("p", element("li", element("p")))), text: "<p><li><p></p></li></p>"},
		{nodes: tree(element("ul", element("li", element("ul", element("li"))), element("li"))), text: "<ul><li><ul><li></li></ul></li><li></li></ul>"},
		{nodes: tree(element("div", element("div", element("h1", element("h1"))))), text: "<div><div><h1><h1></h1></h1></div></div>"},
		{nodes: tree(element("p", svg(inSpace(1, "g", words("<")))...)), text: "<p><svg><g>&lt;</g></svg></p>"},
		{nodes: svg(math(inSpace(2, "mi"))...), text: "<svg><math><mi></mi></math></svg>"},
		{nodes: svg(inSpace(1, "hr", words("x")), inSpace(1, "meta")), text: "<svg><hr>x</hr><meta></meta></svg>"},
		{nodes: math(inSpace(2, "style", words("a<b>&"), inSpace(2, "mi"), comment("c")), inSpace(2, "xmp")), text: "<math><style>a&lt;b&gt;&amp;<mi></mi><!--c--></style><xmp></xmp></math>"},
		{nodes: tree(words("a"), comment("b"), words("c")), text: "a<!--b-->c"},
		{nodes: nested(impl.MaxDepth), text: strings.Repeat("<b>", 10) + strings.Repeat("</b>", 10)},
		{nodes: repeated(element("br"), impl.MaxNodes), text: strings.Repeat("<br>", 60)},
	})
}

// TestCommentsThatStay are read back, though CommentOK does not tell most of them.
func TestCommentsThatStay(t *testing.T) {
	for _, text := range []string{"", "x", "a-b", "-", "--", "---", "a--b", "--a", "a--", "->", ">", "a>b", "<", "<!--", "<b>", "</p>", "&lt;", "&", `"`, "--!>", "- ->", "\x00\xff", strings.Repeat("-", 120), strings.Repeat("&", 120)} {
		checkStable(t, []textOfTree{
			{nodes: tree(comment(text)), text: "<!--" + text + "-->"},
			{nodes: tree(element("p", words("x"), comment(text), comment(text))), text: "<p>x<!--" + text + "--><!--" + text + "--></p>"},
			{nodes: tree(inSpace(1, "svg", comment(text))), text: "<svg><!--" + text + "--></svg>"},
		})
	}
	checkTextsOfTrees(t, []textOfTree{
		{tree(comment("-->")), "<!---->-->", `!"" "-->"`},
		{tree(comment("a-->b")), "<!--a-->b-->", `!"a" "b-->"`},
		{tree(comment("--->")), "<!----->-->", `!"-" "-->"`},
		{tree(comment("--><b>")), "<!----><b>-->", `!"" b["-->"]`},
		{tree(element("p", comment("--></p>"), words("x"))), "<p><!----></p>-->x</p>", `p[!""] "-->x"`},
		{tree(comment("--><!--")), "<!----><!---->", `!"" !""`},
		{tree(comment("-->&lt;")), "<!---->&lt;-->", `!"" "<-->"`},
		{tree(comment("-->"), words("x")), "<!---->-->x", `!"" "-->x"`},
		{tree(comment("--><b a=")), "<!----><b a=-->", `!"" b a="--"[]`},
		{tree(comment("--><b "), element("p")), "<!----><b --><p></p>", `!"" b[p[]]`},
		{tree(comment(`--><b a="`), element("p")), `<!----><b a="--><p></p>`, `!""`},
		{tree(comment("--><style>"), element("p", words("<"))), "<!----><style>--><p>&lt;</p>", `!"" style["--><p>&lt;</p>"]`},
	})
}

func TestTreesThatAreNotWhatTheirTextsMean(t *testing.T) {
	g, mi := inSpace(1, "g"), inSpace(2, "mi")
	checkTextsOfTrees(t, []textOfTree{
		{tree(words("a"), words("b")), "ab", `"ab"`},
		{tree(words("&"), words("lt;")), "&amp;lt;", `"&lt;"`},
		{tree(element("b", words("a"), words("b")), words("c"), words("d"), words("e")), "<b>ab</b>cde", `b["ab"] "cde"`},
		{tree(element("p", element("p", words("x")))), "<p><p>x</p></p>", `p[] p["x"]`},
		{tree(element("p", words("a"), element("p"), words("b"))), "<p>a<p></p>b</p>", `p["a"] p[] "b"`},
		{tree(element("p", element("div", words("x")), words("y"))), "<p><div>x</div>y</p>", `p[] div["x"] "y"`},
		{tree(element("b", element("p", element("ul", element("li"))))), "<b><p><ul><li></li></ul></p></b>", `b[p[] ul[li[]]]`},
		{tree(element("p", element("h1")), element("p", element("table"))), "<p><h1></h1></p><p><table></table></p>", `p[] h1[] p[] table[]`},
		{tree(element("p", element("b", element("p")), element("p"))), "<p><b><p></p></b><p></p></p>", `p[b[p[]]] p[]`},
		{tree(element("li", element("li", words("x")))), "<li><li>x</li></li>", `li[] li["x"]`},
		{tree(element("li", words("a"), element("li", words("b")), words("c"))), "<li>a<li>b</li>c</li>", `li["a"] li["b"] "c"`},
		{tree(element("p", element("li", element("li")))), "<p><li><li></li></li></p>", `p[li[] li[]]`},
		{tree(element("p", element("p", element("p", words("x"))))), "<p><p><p>x</p></p></p>", `p[] p[] p["x"]`},
		{tree(element("svg")), "<svg></svg>", `svg/svg[]`},
		{tree(element("math", element("mi"))), "<math><mi></mi></math>", `math/math[math/mi[]]`},
		{tree(inSpace(1, "math"), inSpace(2, "svg")), "<math></math><svg></svg>", `math/math[] svg/svg[]`},
		{tree(g, mi), "<g></g><mi></mi>", `g[] mi[]`},
		{tree(inSpace(1, "svg", element("g"), mi)), "<svg><g></g><mi></mi></svg>", `svg/svg[svg/g[] svg/mi[]]`},
		{tree(inSpace(2, "math", g)), "<math><g></g></math>", `math/math[math/g[]]`},
		{tree(inSpace(1, "svg", element("b", words("x")), words("y"))), "<svg><b>x</b>y</svg>", `svg/svg[] b["x"] "y"`},
		{tree(inSpace(1, "svg", inSpace(1, "p"), g)), "<svg><p></p><g></g></svg>", `svg/svg[] p[] g[]`},
		{tree(element("p", inSpace(2, "math", element("p", words("x"))))), "<p><math><p>x</p></math></p>", `p[math/math[]] p["x"]`},
		{tree(element("p", inSpace(1, "li", inSpace(1, "li")))), "<p><li><li></li></li></p>", `p[li[] li[]]`},
	})
}

func TestTextsOfVoidElements(t *testing.T) {
	for _, name := range voids() {
		tag, kept := "<"+name+">", !among("br img", name)
		checkStable(t, []textOfTree{
			{nodes: tree(element(name)), text: tag},
			{nodes: tree(words("a"), element(name), element(name), words("b")), text: "a" + tag + tag + "b"},
			{nodes: tree(element("p", withAttrs(element(name), "id", ">"))), text: "<p><" + name + ` id="&gt;"></p>`},
		})
		checkTextsOfTrees(t, []textOfTree{
			{tree(inSpace(1, name)), tag + "</" + name + ">", name + "[]"},
			{tree(inSpace(2, name, words("x"))), tag + "x</" + name + ">", name + `[] "x"`},
			{tree(inSpace(2, name, words("x"), element("b", words("y")))), tag + "x<b>y</b></" + name + ">", name + `[] "x" b["y"]`},
		})
		within := `svg/svg[svg/` + name + `["<" !"c"] svg/` + name + `[]]`
		if !kept {
			within = `svg/svg[] ` + name + `[] "<" !"c" ` + name + `[]`
		}
		checkTextsOfTrees(t, []textOfTree{
			{tree(inSpace(1, "svg", inSpace(1, name, words("<"), comment("c")), inSpace(1, name))), "<svg>" + tag + "&lt;<!--c--></" + name + ">" + tag + "</" + name + "></svg>", within},
		})
	}
}

func TestTextsOfRawElements(t *testing.T) {
	for _, name := range raws() {
		tag, end := "<"+name+">", "</"+name+">"
		for _, text := range []string{"x", "a<b>&\"'", "&lt;", "<!--", "-->", "</", "</" + name, "</" + name + "x>", "</b>", "<" + name + ">", "< /" + name + ">", "</ " + name + ">", " ", "\x00\xff", strings.Repeat("<", 120)} {
			checkStable(t, []textOfTree{
				{nodes: tree(element(name, words(text))), text: tag + text + end},
				{nodes: tree(element("p", withAttrs(element(name, words(text)), "id", "&"), words("x"))), text: "<p><" + name + ` id="&amp;">` + text + end + "x</p>"},
				{nodes: tree(element(name), element(name, words(text)), words("x")), text: tag + end + tag + text + end + "x"},
			})
		}
		checkTextsOfTrees(t, []textOfTree{
			{tree(element(name, words("a"), words("<b>"), words("&"))), tag + "a<b>&" + end, name + `["a<b>&"]`},
			{tree(element(name, words(end))), tag + end + end, name + `[]`},
			{tree(element(name, words("a"+end+"<b>c"))), tag + "a" + end + "<b>c" + end, name + `["a"] b["c"]`},
			{tree(element(name, words("a</"+strings.ToUpper(name)+" x>&lt;"), words("c"))), tag + "a</" + strings.ToUpper(name) + " x>&lt;c" + end, name + `["a"] "<c"`},
			{tree(element(name, words("</"), words(name+">x"))), tag + end + "x" + end, name + `[] "x"`},
			{tree(element(name, words("a</"+name+"/")), words("x>y")), tag + "a</" + name + "/" + end + "x&gt;y", name + `["a"] "x>y"`},
			{tree(inSpace(1, name, words("a<b>&"))), tag + "a&lt;b&gt;&amp;" + end, name + `["a&lt;b&gt;&amp;"]`},
			{tree(inSpace(2, name, element("b", words("<")), words("&"))), tag + "<b>&lt;</b>&amp;" + end, name + `["<b>&lt;</b>&amp;"]`},
			{tree(inSpace(1, "svg", element(name, words("a<b>&")))), "<svg>" + tag + "a<b>&" + end + "</svg>", `svg/svg[svg/` + name + `["a"]] b["&"]`},
			{tree(inSpace(1, "svg", element(name, words("&lt;"), words("<g>")))), "<svg>" + tag + "&lt;<g>" + end + "</svg>", `svg/svg[svg/` + name + `["<" svg/g[]]]`},
			{tree(inSpace(1, "g", element(name, words("<"))), words("<")), "<g>" + tag + "<" + end + "</g>&lt;", `g[` + name + `["<"]] "<"`},
		})
		checkStable(t, []textOfTree{
			{nodes: tree(inSpace(1, "svg", inSpace(1, name, words("a<b>&"+end)))), text: "<svg>" + tag + "a&lt;b&gt;&amp;&lt;/" + name + "&gt;" + end + "</svg>"},
			{nodes: tree(inSpace(2, "math", inSpace(2, name, inSpace(2, "mi", words("<")), comment("<")))), text: "<math>" + tag + "<mi>&lt;</mi><!--<-->" + end + "</math>"},
		})
	}
}

func TestValuesAndTextsOfAnyByte(t *testing.T) {
	for c := range 256 {
		b := string([]byte{byte(c)})
		for _, text := range []string{b, "x" + b + "y", b + b, "&" + b, b + "amp;"} {
			checkStable(t, []textOfTree{
				{nodes: tree(words(text)), text: escapedText(text)},
				{nodes: tree(withAttrs(element("p", words(text)), "a", text, "b", text)), text: `<p a="` + escapedValue(text) + `" b="` + escapedValue(text) + `">` + escapedText(text) + "</p>"},
				{nodes: tree(inSpace(1, "svg", withAttrs(inSpace(1, "g"), "a", text), comment(text))), text: `<svg><g a="` + escapedValue(text) + `"></g><!--` + text + "--></svg>"},
				{nodes: tree(element("xmp", words(text))), text: "<xmp>" + text + "</xmp>"},
			})
		}
	}
}

// TestTextsOfAnyTrees is promise 9.
func TestTextsOfAnyTrees(t *testing.T) {
	told := map[bool]int{}
	codes := map[int]int{}
	for _, x := range slices.Concat(rightTrees(), grownTrees(2000), brokenTrees(4000)) {
		want := meaningBy(x)
		checkMeaning(t, x, want)
		told[want.stable]++
		codes[want.code]++
	}
	if told[true] < 1000 || told[false] < 1000 || codes[impl.OK] < 1000 || codes[impl.ErrDeep] < 100 || codes[impl.ErrMany] < 100 || codes[impl.ErrSize] < 100 {
		t.Error("too few of a sort", told, codes)
	}
}

// TestTextsOfSmallTrees has all trees of some shapes, of some names in each Space.
func TestTextsOfSmallTrees(t *testing.T) {
	kept := 0
	var kinds []impl.Node
	for _, name := range strings.Fields("p li div b br svg math g style") {
		for space := range 3 {
			kinds = append(kinds, inSpace(space, name))
		}
	}
	check := func(nodes ...impl.Node) {
		t.Helper()
		if impl.TreeOK(nodes) {
			kept++
			checkMeaning(t, nodes, meaningBy(nodes))
		}
	}
	for _, a := range kinds {
		check(holding(a, words("&"), words("<")), words(">"))
		for _, b := range kinds {
			check(a, holding(b, words("&")), words("x"))
			check(holding(a, words("<"), b, words("x")), words("y"))
			for i, c := range kinds {
				if i%3 == 0 || c.Name == "g" || c.Name == "p" {
					check(holding(a, holding(b, c, words("x")), words("y")), words("z"))
				}
			}
		}
	}
	if kept < 5000 {
		t.Error("too few trees", kept)
	}
}

// TestTreesOfTextsReturn is promise 8.
func TestTreesOfTextsReturn(t *testing.T) {
	short, long := 0, 0
	check := func(s string) {
		t.Helper()
		meant, code := impl.Build(s)
		if code != impl.OK {
			return
		}
		if !checkStays(t, meant) {
			long++
			return
		}
		short++
		if got, code := impl.ReparseTimes(meant, 2); show(got) != show(meant) || code != impl.OK {
			t.Errorf("Build(%.300q) built again and again is %.300s, %d", s, brief(got), code)
		}
	}
	random := rand.New(rand.NewSource(11))
	for range 10000 {
		check(anyBuildText(random, 40, buildPieces()))
		check(anyTokenText(random, 30))
	}
	for range 2000 {
		check(anyBuildText(random, 150, widePieces()))
		check(strings.Repeat("<b a=\""+strings.Repeat("&<>'", random.Intn(11))+"\"></b>", 1+random.Intn(60)))
	}
	for _, pieces := range [][]string{
		{"a", "<p>", "</p>", "<li>", "<svg>", "<g/>", "</svg>", "<style>", "</style>", "<br>"},
		{"<!--", "-->", "--", ">", "<!", "<b>", "</b>", "&lt;", "<xmp>", "</xmp"},
	} {
		for n := range 5 {
			each(pieces, n, check)
		}
	}
	for _, s := range manyTexts() {
		check(s)
	}
	if short < 20000 || long < 100 {
		t.Error("too few of a sort", short, long)
	}
}
