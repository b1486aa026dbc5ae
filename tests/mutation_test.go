package tests

import (
	"math/rand"
	"slices"
	"strings"
	"testing"

	"loop.example/g00788/impl"
)

// A mutation is a tree, sanitized, the text of what is left, and what that means, built again and again.
type mutation struct {
	told  string
	nodes []impl.Node
	text  string
	meant string
}

// TestMutationsByHand has what is left mean something else than it is, though never harm.
func TestMutationsByHand(t *testing.T) {
	svg := func(kids ...impl.Node) impl.Node { return inSpace(1, "svg", kids...) }
	for _, v := range []mutation{
		{"", tree(inSpace(1, "style", words("<script>x</script>"))), "<style>&lt;script&gt;x&lt;/script&gt;</style>", `style["&lt;script&gt;x&lt;/script&gt;"]`},
		{"unwrap:svg/svg", tree(svg(inSpace(1, "style", words("</style><script>")))), "<style>&lt;/style&gt;&lt;script&gt;</style>", `style["&lt;/style&gt;&lt;script&gt;"]`},
		{"", tree(svg(element("style", words("&lt;/style&gt;&lt;script&gt;")))), "<svg><style>&lt;/style&gt;&lt;script&gt;</style></svg>", `svg/svg[svg/style["</style><script>"]]`},
		{"", tree(svg(element("style", words("a</style><script>x</script>")))), "<svg></svg>", `svg/svg[]`},
		{"", tree(inSpace(1, "style", withAttrs(inSpace(1, "b", words("<")), "title", "</style><script>"))), `<style><b title="&lt;/style&gt;&lt;script&gt;">&lt;</b></style>`, `style["<b title=\"&lt;/style&gt;&lt;script&gt;\">&lt;</b>"]`},
		{"", tree(inSpace(2, "xmp", inSpace(1, "style", words("</xmp>")), inSpace(2, "xmp", words("x")), inSpace(2, "b"))), "<xmp><style>&lt;/xmp&gt;</style><xmp>x</xmp><b></b></xmp>", `xmp["<style>&lt;/xmp&gt;</style><xmp>x"] b[]`},
		{"comments", tree(inSpace(1, "style", comment("x"), inSpace(1, "i", comment("y")))), "<style><!--x--><i><!--y--></i></style>", `style["<!--x--><i><!--y--></i>"]`},
		{"comments", tree(comment("--><script>"), svg(comment("x>"), comment(" x -"), comment("x"))), "<svg><!--x--></svg>", `svg/svg[!"x"]`},
		{"", tree(comment("--><script>"), words("-->")), "--&gt;", `"-->"`},
		{"unwrap:b", tree(words("<scr"), element("b", words("ipt>")), words("&#6"), element("b", words("0;"))), "&lt;script&gt;&amp;#60;", `"<script>&#60;"`},
		{"", tree(withAttrs(element("a"), "href", "&#106;avascript:x", "title", "\" onclick=\"x")), `<a href="&amp;#106;avascript:x" title="&quot; onclick=&quot;x"></a>`, `a href="&#106;avascript:x" title="\" onclick=\"x"[]`},
		{"unwrap:style", tree(element("style", words("<script>"), words("</style>"))), "&lt;script&gt;&lt;/style&gt;", `"<script></style>"`},
		{"", tree(svg(inSpace(1, "p", inSpace(1, "style", withAttrs(inSpace(1, "i"), "id", "</style><embed>"))))), `<svg><p><style><i id="&lt;/style&gt;&lt;embed&gt;"></i></style></p></svg>`, `svg/svg[] p[style["<i id=\"&lt;/style&gt;&lt;embed&gt;\"></i>"]]`},
		{"", tree(inSpace(2, "math", inSpace(2, "script", inSpace(2, "g")), element("iframe", words("x")), inSpace(1, "li"))), "<math><li></li></math>", `math/math[] li[]`},
		{"", tree(element("style", words("a"), words("&lt;"), words("/style>"))), "<style>a&lt;/style></style>", `style["a&lt;/style>"]`},
		{"", tree(element("style", words("x"), words("<"), words("/style><script>")), words("y")), "y", `"y"`},
	} {
		left, _ := impl.Sanitize(v.nodes, config(v.told))
		text, code := impl.Serialize(left)
		if text != v.text || code != impl.OK {
			t.Errorf("what is left of %s by %q has the text %q, %d, want %q", brief(v.nodes), v.told, text, code, v.text)
		}
		for k := 1; k <= impl.MaxDepth; k++ {
			if meant, code := impl.ReparseTimes(left, k); brief(meant) != v.meant || code != impl.OK {
				t.Errorf("%q, built %d times, means %s, %d, want %s", text, k, brief(meant), code, v.meant)
			}
		}
		checkNeverHarm(t, left)
	}
}

// checkMutations holds promise 13 of one tree by some configurations.
func checkMutations(t *testing.T, nodes []impl.Node, configs ...impl.Config) (changed, long int) {
	t.Helper()
	for _, c := range configs {
		left, code := impl.Sanitize(nodes, c)
		if code != impl.OK {
			t.Errorf("Sanitize(%.200s) has code %d", brief(nodes), code)
		}
		checkClean(t, left)
		times := checkNeverHarm(t, left)
		if meant, _ := impl.Reparse(left); times > 1 && show(meant) != show(left) {
			changed++
		}
		if times <= impl.MaxDepth {
			long++
		}
	}
	return changed, long
}

func TestWhatIsLeftNeverMeansHarm(t *testing.T) {
	wide, any := wideConfigs(), anyConfigs(100)
	changed, long := 0, 0
	for i, nodes := range slices.Concat(rightTrees(), grownTrees(300), brokenTrees(300), mutantTrees(1500), [][]impl.Node{sized(4000), sized(5000), growing()}) {
		a, b := checkMutations(t, nodes, wide[i%len(wide)], wide[(i/2)%len(wide)], any[i%len(any)])
		changed, long = changed+a, long+b
	}
	if changed < 1000 || long < 10 {
		t.Error("too few of one sort", changed, long)
	}
}

// mutantTrees are right trees by chance of what breaks out of spaces, and of raw elements in other ones, whose words and values are harm as soon as they are read as more.
func mutantTrees(n int) [][]impl.Node {
	var trees [][]impl.Node
	for i := range n {
		g := newGrower(int64(i), 1+i%20)
		g.names = strings.Fields("svg svg math style style xmp xmp p p b i li table g mi script iframe title br")
		nodes := g.tree(0)
		armWords(g, nodes)
		trees = append(trees, nodes)
	}
	return trees
}

func armWords(g *grower, nodes []impl.Node) {
	for i := range nodes {
		x := &nodes[i]
		armWords(g, x.Kids)
		switch {
		case x.Kind != impl.NdElement:
			x.Text = g.pick("x", "", "--", "-->", "</style>", "</xmp >", "&lt;/style&gt;", "&lt;/xmp&gt;", "</svg>", "a-b") + g.pick("x", "<script>", "<b onclick=x>", "&lt;script&gt;", "<a href=javascript:x>", "<!--", "&lt;!--") + g.pick("", "</script>", "<p>", "-")
		case x.Kids == nil && len(x.Attrs) == 0:
			*x = withAttrs(*x, "title", g.pick("</style><script>", "</xmp><embed>", "--><script>", `"><script>`, "' onclick=x"))
		}
	}
}

// TestSmallTreesNeverMeanHarm has two of few kinds of nodes, one within another and one behind another, and some of three.
func TestSmallTreesNeverMeanHarm(t *testing.T) {
	kinds := []impl.Node{
		inSpace(1, "svg"), inSpace(2, "math"), inSpace(1, "style"), inSpace(2, "xmp"), element("style"), element("xmp"), element("p"), inSpace(1, "p"), inSpace(1, "g"),
		withAttrs(inSpace(1, "b"), "title", "</style><script>"), withAttrs(element("i"), "title", "</xmp><script>", "onx", "y"), element("script"), inSpace(1, "script"),
	}
	leaves := []impl.Node{
		words("</style><script>"), words("</xmp><script>"), words("&lt;/style&gt;&lt;script&gt;"), comment("x"), comment("--><script>"), comment("x-"), withAttrs(element("img"), "src", "javascript:x"),
	}
	configs := []impl.Config{config("comments"), config("unwrap:svg/svg,math/math,svg/g,p comments"), config("unwrap:svg/style,style,svg/b"), config("allow:svg/svg,svg/style,style,xmp,math/xmp,i,svg/script comments")}
	tried := 0
	check := func(nodes ...impl.Node) {
		t.Helper()
		if impl.TreeOK(nodes) {
			tried++
			checkMutations(t, nodes, configs...)
		}
	}
	for _, a := range kinds {
		for _, leaf := range leaves {
			check(holding(a, leaf), leaf)
			for _, b := range kinds {
				check(holding(a, holding(b, leaf), leaf), leaf)
				check(holding(a, leaf), holding(b, leaf))
				for k, c := range kinds {
					if k%4 == 0 {
						check(holding(a, holding(b, holding(c, leaf))), leaf)
					}
				}
			}
		}
	}
	if tried < 3000 {
		t.Error("too few trees", tried)
	}
}

// checkTextNeverHarm holds promise 13 of a text: what SanitizeText makes of it is built, and built again.
func checkTextNeverHarm(t *testing.T, s string, c impl.Config) bool {
	t.Helper()
	safe, code := impl.SanitizeText(s, c)
	if code != impl.OK {
		return false
	}
	meant, code := impl.Build(safe)
	if code != impl.OK {
		return false
	}
	if _, harm := firstBy(meant, harmBy); harm || !impl.Harmless(meant) {
		t.Errorf("SanitizeText(%q) is %q, which means %s", s, safe, brief(meant))
	}
	checkNeverHarm(t, meant)
	return true
}

func TestTextsOfWhatIsLeftNeverMeanHarm(t *testing.T) {
	random := rand.New(rand.NewSource(13))
	configs := append(wideConfigs(), anyConfigs(50)...)
	meant := 0
	check := func(i int, s string) {
		t.Helper()
		if checkTextNeverHarm(t, s, configs[i%len(configs)]) {
			meant++
		}
	}
	for i := range 6000 {
		check(i, anyHarmText(random))
		check(i, anyTokenText(random, 30))
	}
	for _, s := range harmTexts() {
		for i := range configs {
			check(i, s)
		}
	}
	for _, pieces := range [][]string{
		{"<svg>", "<style>", "<p>", "</style>", "<b title='</style><script>'>", "&lt;script&gt;", "<script>", "</svg>", "<!--", "-->"},
		{"<math>", "<xmp>", "</xmp>", "<script>", "&lt;/xmp&gt;&lt;script&gt;", "<!--x--><embed>", "<img onx=y src=' javascript:'>", "<!-", ">"},
	} {
		for n := range 5 {
			each(pieces, n, func(s string) { check(n+len(s), s) })
		}
	}
	if meant < 20000 {
		t.Error("too few texts", meant)
	}
}
