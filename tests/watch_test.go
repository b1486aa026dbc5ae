package tests

import (
	"slices"
	"strings"
	"testing"

	"loop.example/g00788/impl"
)

func svg(kids ...impl.Node) impl.Node { return inSpace(impl.SpSvg, "svg", kids...) }

func TestWatchedTreesThatNeverMeanHarm(t *testing.T) {
	checkHarmFrom(t, nil, never)
	checkHarmFrom(t, []impl.Node{}, never)
	for _, nodes := range [][]impl.Node{
		tree(words("<script>")), tree(words("-->")), tree(words("</p><b onclick=x>")), tree(element("p", words("x"))), tree(comment("x"), comment("--")), nested(10), nested(9, words("&")), repeated(element("br"), 60), repeated(words("<"), 60),
		tree(element("style", words("<script>"))), tree(element("xmp", words("</style><script>"))), tree(element("style", words("</style"))), tree(svg(inSpace(1, "style", words("</style><script>")))), tree(svg(inSpace(2, "xmp", words("<embed>")))),
		tree(inSpace(1, "style", words("<script>"))), tree(inSpace(1, "style", inSpace(1, "b", comment("<script>")))), tree(inSpace(2, "xmp", withAttrs(element("b"), "title", "</xmp><script>"))), tree(withAttrs(element("b"), "title", `"><script>`, "href", "&#106;avascript:")),
		tree(comment("><script>")), tree(comment("-- ><script>")), tree(comment("--><b>")), tree(comment("--><b title=")), tree(comment("--><a href='javascript")), tree(comment("--><p onclick='")), tree(comment("--></script>")),
		tree(element("style", words("</style><b>"))), tree(element("p", element("p", inSpace(1, "g")))), tree(inSpace(1, "math"), inSpace(2, "svg", element("li", element("li")))),
	} {
		checkHarmFrom(t, nodes, never)
	}
	for _, x := range harmlessNodes() {
		checkHarmFrom(t, tree(x, element("p", x)), never)
	}
}

func TestWatchedTreesThatAreHarmAtOnce(t *testing.T) {
	for _, x := range harms() {
		checkHarmFrom(t, tree(x), 0)
		checkHarmFrom(t, nested(9, x), 0)
		checkHarmFrom(t, append(repeated(element("br"), 59), x), 0)
	}
	checkHarmFrom(t, tree(element("style", words("</style><script>")), element("script")), 0)
	checkHarmFrom(t, tree(element("style", words("x")), svg(inSpace(1, "use"))), 0)
	checkHarmFrom(t, tree(comment("--><!--"), element("object")), 0)
}

// TestWatchedTreesThatMeanHarmLater are harmless themselves.
func TestWatchedTreesThatMeanHarmLater(t *testing.T) {
	for _, name := range strings.Fields(bannedNames) {
		for _, nodes := range [][]impl.Node{
			tree(comment("--><" + name + ">")), tree(words("x"), element("p", comment("--><"+strings.ToUpper(name)+"/>"))), tree(element("style", words("</style><"+name+">"))), tree(element("xmp", words("x</XMP\n><"+name+"></"+name+">"))),
			tree(svg(element("style", words("<"+name+">")))), tree(inSpace(2, "math", inSpace(2, "mi", element("xmp", words("&lt;"), words("<"+name+">"))))), tree(svg(element("style", words("<"), words(name+">")))),
			nested(8, comment("--><"+name+">")), append(repeated(element("br"), 57), comment("--><"+name+">")),
		} {
			checkHarmFrom(t, nodes, 1)
		}
	}
	for _, tag := range []string{"<b onclick=x>", "<br onx>", "<a href=javascript:>", "<a id=x href=' java\nscript:'>", "<img src=JavaScript:x>", "<p action=&#106;avascript:>", "<svg><a xlink-href=javascript:x />", "<i onclick onload>"} {
		checkHarmFrom(t, tree(comment("-->"+tag)), 1)
		checkHarmFrom(t, tree(element("style", words("</style>"+tag))), 1)
		checkHarmFrom(t, tree(svg(element("style", words(tag)))), 1)
	}
	checkHarmFrom(t, tree(element("style", words("</sty"), words("le><script>"))), 1)
	checkHarmFrom(t, tree(element("style", words("<")), comment("--><embed>"), element("p")), 1)
	checkHarmFrom(t, nested(9, comment("--><img onx=y>")), 1)
	checkHarmFrom(t, tree(comment("--><style>"), words("x"), element("style", words("y")), comment("--><script>")), 1)
}

// TestWatchedTreesThatAreBuiltNoMore have harm ahead of that, or none, or none but in the text that has a code.
func TestWatchedTreesThatAreBuiltNoMore(t *testing.T) {
	use := svg(inSpace(1, "use"))
	breaks := repeated(element("br"), 60)
	deep := nested(9, comment("--><b>"))
	for _, v := range []struct {
		nodes []impl.Node
		from  int
	}{
		{deep, never},
		{nested(9, comment("--><script>")), never},
		{append(nested(9, comment("--><script>")), use), 0},
		{append(tree(comment("--><embed>")), deep...), never},
		{append(tree(comment("--><embed>")), nested(9, comment("--><br>"))...), 1},
		{append(breaks[:59:59], comment("-->")), never},
		{append(breaks[:58:58], comment("--><script>")), never},
		{append(breaks[:57:57], comment("--><script>")), 1},
		{append(breaks[:57:57], use, comment("-->")), 0},
		{append(breaks[:58:58], comment("-->"), element("embed")), 0},
		{append(breaks[:57:57], comment("--><embed>"), comment("-->")), never},
		{append(breaks[:56:56], comment("--><embed>")), 1},
		{tree(words(long(120)), words("x")), never},
		{tree(words(long(120)), words("x"), use), 0},
		{tree(comment("--><script></script>"), words(long(118))), never},
		{tree(comment("--><script></script>"), words(long(117))), 1},
		{tree(svg(element("style", words("<script>")), words(long(120)), words("x"))), never},
		{padded(impl.MaxList, words("x")), never},
		{padded(impl.MaxList+1, words("x")), never},
		{padded(impl.MaxList, comment("--><embed>")), 1},
		{padded(impl.MaxList+1, comment("--><embed>")), never},
		{padded(impl.MaxList+1, comment("--><embed>"), use), 0},
		{sized(5000), never},
		{sized(impl.MaxText + 1), never},
		{append(sized(5000)[:59], element("embed")), 0},
	} {
		checkHarmFrom(t, v.nodes, v.from)
	}
}

// TestWatchedTreesThatAreBuiltOnce mean trees whose own texts are too long, with harm at first, then, or not at all.
func TestWatchedTreesThatAreBuiltOnce(t *testing.T) {
	checkHarmFrom(t, growing(), never)
	checkHarmFrom(t, append(growing(), element("embed")), 0)
	for _, last := range []impl.Node{element("style", words("<script>")), comment("--><script>"), inSpace(1, "g", element("xmp", words("<b onx=y>")))} {
		grown := growing()
		grown[0].Kids = append(grown[0].Kids, last)
		checkHarmFrom(t, grown, 1)
		checkHarmFrom(t, append(growing(), svg(last)), 1)
		if meant, code := impl.ReparseTimes(grown, 2); len(meant) != 0 || code != impl.ErrSize {
			t.Errorf("it is built twice: %s, %d", brief(meant), code)
		}
	}
}

func TestFlattenedTrees(t *testing.T) {
	checkFlat(t, nil)
	checkFlat(t, []impl.Node{})
	checkFlat(t, tree(words("a")), "text a")
	checkFlat(t, tree(comment("a"), comment(""), comment(" ")), "comment a", "comment ", "comment  ")
	checkFlat(t, tree(element("p"), inSpace(1, "p"), inSpace(2, "p")), "element 0 p", "element 1 p", "element 2 p")
	checkFlat(t, tree(element("svg"), svg(), inSpace(2, "svg"), inSpace(1, "math"), inSpace(2, "math"), element("math")), "element 0 svg", "element 1 svg", "element 2 svg", "element 1 math", "element 2 math", "element 0 math")
	checkFlat(t, tree(words(" "), words(" a  b "), words("\n"), words("a\r\nb\n"), words("\t\f\x00\xff\v"), words("é")), "text  ", "text  a  b ", "text \n", "text a\r\nb\n", "text \t\f\x00\xff\v", "text é")
	checkFlat(t, tree(words("element 0 p"), comment("element 1 g"), words("text a"), comment("comment b"), words("x\nelement 0 p\n"), words("comment a"), comment("text a")),
		"text element 0 p", "comment element 1 g", "text text a", "comment comment b", "text x\nelement 0 p\n", "text comment a", "comment text a")
	checkFlat(t, tree(words("&<>\"%'"), comment("--><script>"), words("&lt;"), comment("&amp;"), element("style", words("<b>"))), "text &<>\"%'", "comment --><script>", "text &lt;", "comment &amp;", "element 0 style", "text <b>")
	checkFlat(t, tree(withAttrs(element("a", words("x")), "href", "y", "onclick", "z"), element("a-1234567890"), element("script")), "element 0 a", "text x", "element 0 a-1234567890", "element 0 script")
	checkFlat(t, tree(element("p", words("a"), svg(inSpace(1, "g"))), comment("b")), "element 0 p", "text a", "element 1 svg", "element 1 g", "comment b")
	checkFlat(t, tree(element("a", element("b", element("c"), words("d")), element("e", words("f"))), words("g"), element("h", comment("i")), element("j")),
		"element 0 a", "element 0 b", "element 0 c", "text d", "element 0 e", "text f", "text g", "element 0 h", "comment i", "element 0 j")
	checkFlat(t, tree(words("a"), words("a"), element("b"), element("b", words("a"))), "text a", "text a", "element 0 b", "element 0 b", "text a")
	checkFlat(t, nested(10), slices.Repeat([]string{"element 0 b"}, 10)...)
	checkFlat(t, nested(9, words("x")), append(slices.Repeat([]string{"element 0 b"}, 9), "text x")...)
	checkFlat(t, repeated(comment("x"), 60), slices.Repeat([]string{"comment x"}, 60)...)
	checkFlat(t, tree(words(long(120)), comment(strings.Repeat("-", 120))), "text "+long(120), "comment "+strings.Repeat("-", 120))
}

func TestFlattenedTreesOfEachByte(t *testing.T) {
	for c := range 256 {
		b := string([]byte{byte(c)})
		checkFlat(t, tree(words(b), comment(b), element("p", words("x"+b+"y"), comment(b+b))), "text "+b, "comment "+b, "element 0 p", "text x"+b+"y", "comment "+b+b)
	}
}

func TestPartsOfTrees(t *testing.T) {
	a, b, p := words("a"), words("b"), element("p")
	full := tree(element("p", a, element("i", b)), comment("c"), a, svg(inSpace(1, "p"), b))
	for _, v := range []struct {
		a, b []impl.Node
		part bool
	}{
		{nil, nil, true}, {nil, []impl.Node{}, true}, {nil, tree(a), true}, {[]impl.Node{}, full, true}, {nil, nested(10), true}, {tree(a), nil, false}, {tree(comment("")), nil, false}, {nested(10), nil, false},
		{full, full, true}, {nested(10), nested(10), true}, {repeated(a, 60), repeated(a, 60), true}, {repeated(a, 59), repeated(a, 60), true}, {repeated(a, 60), repeated(a, 59), false}, {nested(9), nested(10), true}, {nested(10), nested(9), false},
		{tree(a, b), tree(a, b, p), true}, {tree(a, b), tree(p, a, b), true}, {tree(a, b), tree(a, p, b), true}, {tree(a, b, p), tree(a, b), false}, {tree(p, a, b), tree(a, b), false}, {tree(a, p, b), tree(a, b), false},
		{tree(a, b), tree(b, a), false}, {tree(p, a, b), tree(a, b, p), false}, {tree(a, b, p), tree(p, b, a), false}, {tree(a, b), tree(b, a, b), true}, {tree(a, b, a), tree(a, a, b), false}, {tree(a, b, a), tree(a, b, b, a), true},
		{tree(a, a), tree(a), false}, {tree(a, a), tree(a, b, a), true}, {tree(a), tree(a, a), true}, {tree(p, p), tree(p, a), false}, {tree(a, a, b), tree(a, b, a, b), true}, {tree(a, a, b, b), tree(a, b, a, b), false}, {tree(b, b), tree(b, a, p), false},
		{tree(element("p", a)), tree(p, a), true}, {tree(p, a), tree(element("p", a)), true}, {tree(a, p), tree(element("p", a)), false}, {tree(element("p", element("i", a, b))), tree(element("p", element("i"), a), b), true},
		{tree(p), tree(inSpace(1, "p")), false}, {tree(inSpace(1, "p")), tree(inSpace(2, "p")), false}, {tree(p), tree(inSpace(2, "p"), inSpace(1, "p"), p), true}, {tree(element("b")), tree(p), false}, {tree(element("b")), tree(element("br")), false},
		{tree(withAttrs(p, "id", "x")), tree(p), true}, {tree(p), tree(withAttrs(p, "onclick", "x")), true}, {tree(withAttrs(p, "id", "x")), tree(withAttrs(p, "id", "y", "class", "z")), true},
		{tree(a), tree(comment("a")), false}, {tree(comment("a")), tree(a), false}, {tree(words("comment a")), tree(comment("a")), false}, {tree(words("element 0 p")), tree(p), false}, {tree(p), tree(words("element 0 p")), false}, {tree(words("x\ntext y")), tree(words("x"), words("y")), false},
		{tree(words("ab")), tree(a, b), false}, {tree(a, b), tree(words("ab")), false}, {tree(a), tree(words("aa")), false}, {tree(words("a ")), tree(a), false}, {tree(words("A")), tree(a), false}, {tree(comment("")), tree(comment(" ")), false}, {tree(comment("")), tree(p, comment("")), true},
		{tree(a), full, true}, {tree(element("p", a), a), full, true}, {tree(a, element("i", b), comment("c"), a, inSpace(1, "p", b)), full, true}, {tree(a, a, a), full, false}, {tree(b, b, a), full, false}, {tree(svg(), p), full, false}, {tree(comment("c"), comment("c")), full, false},
	} {
		checkPart(t, v.a, v.b, v.part)
	}
}

// TestPartsOfTreesAtAnyPlace takes one node away, changes one, doubles one, and changes two about.
func TestPartsOfTreesAtAnyPlace(t *testing.T) {
	var nodes []impl.Node
	for _, told := range "abcdefgh" {
		nodes = append(nodes, words(string(told)), comment(string(told)), element(string(told)))
	}
	for i := range nodes {
		less := slices.Delete(slices.Clone(nodes), i, i+1)
		checkPart(t, less, nodes, true)
		checkPart(t, nodes, less, false)
		for _, other := range []impl.Node{words("x"), comment(""), inSpace(1, "a")} {
			changed := slices.Clone(nodes)
			changed[i] = other
			checkPart(t, changed, nodes, false)
			checkPart(t, nodes, changed, false)
			checkPart(t, less, changed, true)
		}
		double := slices.Insert(slices.Clone(nodes), i, nodes[i])
		checkPart(t, nodes, double, true)
		checkPart(t, double, nodes, false)
		for k := range i {
			about := slices.Clone(nodes)
			about[i], about[k] = about[k], about[i]
			checkPart(t, about, nodes, false)
			checkPart(t, nodes, about, false)
		}
	}
}

func TestTextsBuiltAgain(t *testing.T) {
	for _, s := range []string{
		"", "x", "<p>a</p>", "a&lt;b", "<br>", "<!--x-->", "<svg><g></g></svg>", "<style>&lt;</style>", `<a href="x">b</a>`,
		"<p>a<p>b", "<p><b>a<p>b<svg><p>c<style><x></style>", "<!--a><b", "<!x>", "<?", "</>", "<1", "<", "<a", "a<b", "&", "&lt;script&gt;", "&#60;", "<P ID=x>", "<b a=1 a=2 B=3 x_y=4 c>", "<svg/>x<math/>", "<style/>", "<br/>", "<svg><style><p>", "</p></svg>x",
		"<style></style><style>a</style >b<xmp></xmp", "<script>", "<xmp></", "<li><ul><li>a<li>b</ul>c<li>d", "\x00\xff", "<\xff>", "<!---->", "<!----!>-->", "<!-->x-->", "<!->-->", "a</b>b", "a<x_y>b</x_y>c", "<svg><br/><p/>", "<math><mi/><li><li>",
	} {
		checkAgain(t, s, impl.OK)
	}
}

// TestTextsThatMeanThemselves are built again to the very same tree.
func TestTextsThatMeanThemselves(t *testing.T) {
	for _, nodes := range slices.Concat([][]impl.Node{nested(10), repeated(element("br"), 60), sized(impl.MaxList), padded(impl.MaxList, words("x")), tree(svg(inSpace(1, "style", words("<b>")), words("x")), element("style", words("<b>")))}) {
		s := writtenBy(nodes)
		checkAgain(t, s, impl.OK)
		if meant, code := impl.Build(s); show(meant) != show(nodes) || code != impl.OK {
			t.Errorf("%.300q means %.300s, %d", s, brief(meant), code)
		}
	}
}
