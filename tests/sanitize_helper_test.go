package tests

import (
	"fmt"
	"math/rand"
	"slices"
	"strconv"
	"strings"
	"testing"

	"loop.example/g00788/impl"
)

func harmBy(x impl.Node) bool {
	return x.Kind == 1 && (among(bannedNames, x.Name) || slices.ContainsFunc(x.Attrs, harmfulBy))
}

func rawMarkupBy(x impl.Node) bool {
	return x.Kind == 1 && x.Space == 0 && among("style script xmp iframe", x.Name) && strings.Contains(show(x.Kids), "<")
}

func uncleanBy(x impl.Node) bool {
	return harmBy(x) || x.Kind == 3 && !isComment(x.Text) || rawMarkupBy(x)
}

// firstBy is the path of the first node of a right tree that is told so.
func firstBy(nodes []impl.Node, tells func(impl.Node) bool) ([]int, bool) {
	for _, p := range listed(nodes) {
		if tells(p.node) {
			return p.path, true
		}
	}
	return nil, false
}

// fateBy reads what becomes of one node, of right configurations: it stays, it goes, or it is unwrapped.
func fateBy(x impl.Node, c impl.Config) string {
	switch x.Kind {
	case 2:
		return "stays"
	case 3:
		return map[bool]string{true: "stays", false: "goes"}[c.Comments && isComment(x.Text)]
	}
	switch d := decidedBy(c, x.Space, x.Name, nil); {
	case d.unwraps:
		return "unwrapped"
	case d.allows && !rawMarkupBy(x):
		return "stays"
	}
	return "goes"
}

// sanitizedBy reads chapter 9 in another way than the program: from a list of the nodes, and the places of what they lie within then.
func sanitizedBy(nodes []impl.Node, c impl.Config) []impl.Node {
	var p plot
	within := map[string]int{fmt.Sprint([]int{}): -1}
	for _, x := range listed(nodes) {
		above, isLeft := within[fmt.Sprint(x.path[:len(x.path)-1])]
		if !isLeft {
			continue
		}
		switch fateBy(x.node, c) {
		case "unwrapped":
			within[fmt.Sprint(x.path)] = above
		case "stays":
			within[fmt.Sprint(x.path)] = len(p.nodes)
			x.node.Attrs = slices.DeleteFunc(slices.Clone(x.node.Attrs), func(a impl.Attr) bool {
				return !attrStaysBy(c, elementOf(x.node.Space, x.node.Name), a)
			})
			p.nodes, p.above = append(p.nodes, x.node), append(p.above, above)
		}
	}
	return p.within(-1)
}

// flat tells of each node, ahead of its Kids, what it is, but not its attributes.
func flat(nodes []impl.Node) []string {
	var list []string
	for _, p := range listed(nodes) {
		list = append(list, strconv.Itoa(p.node.Kind)+strconv.Itoa(p.node.Space)+" "+p.node.Name+" "+p.node.Text)
	}
	return list
}

func standsWithin(part, all []string) bool {
	for _, told := range all {
		if len(part) > 0 && part[0] == told {
			part = part[1:]
		}
	}
	return len(part) == 0
}

// checkLeft holds Sanitize, Permitted and Removed against what is to be left of a right tree, and looks at promises 11 and 12.
func checkLeft(t *testing.T, nodes []impl.Node, c impl.Config, want []impl.Node) {
	t.Helper()
	left, code := impl.Sanitize(nodes, c)
	if show(left) != show(want) || code != impl.OK {
		t.Errorf("Sanitize(%.300s) by %s = %.300s, %d, want %.300s", brief(nodes), showConfig(c), show(left), code, show(want))
	}
	if yes, code := impl.Permitted(nodes, c); yes != (show(want) == show(nodes)) || code != impl.OK {
		t.Errorf("Permitted(%.300s) by %s = %v, %d", brief(nodes), showConfig(c), yes, code)
	}
	fewer := len(listed(nodes)) - len(listed(want))
	if n, code := impl.Removed(nodes, c); n != fewer || code != impl.OK {
		t.Errorf("Removed(%.300s) by %s = %d, %d, want %d", brief(nodes), showConfig(c), n, code, fewer)
	}
	if !isTree(left) || !standsWithin(flat(left), flat(nodes)) {
		t.Errorf("what is left of %.300s does not stand there: %.300s", brief(nodes), show(left))
	}
	checkNothingLeaves(t, left, c)
	checkClean(t, left)
}

// checkNothingLeaves takes what is left of a tree.
func checkNothingLeaves(t *testing.T, left []impl.Node, c impl.Config) {
	t.Helper()
	again, c1 := impl.Sanitize(left, c)
	permitted, c2 := impl.Permitted(left, c)
	n, c3 := impl.Removed(left, c)
	if show(again) != show(left) || !permitted || n != 0 || c1 != impl.OK || c2 != impl.OK || c3 != impl.OK {
		t.Errorf("%.300s, sanitized again by %s, is %.300s: %v, %d, codes %d %d %d", show(left), showConfig(c), show(again), permitted, n, c1, c2, c3)
	}
}

// checkClean takes what has no harm, and nothing that could come to mean it.
func checkClean(t *testing.T, nodes []impl.Node) {
	t.Helper()
	checkHarm(t, nodes, nil, true)
	if _, unclean := firstBy(nodes, uncleanBy); unclean {
		t.Errorf("the second reading does not tell %.300s clean", show(nodes))
	}
}

// checkHarm holds Harmless, Clean and FirstHarm against the path of the first harm in a right tree, none if it is empty.
func checkHarm(t *testing.T, nodes []impl.Node, want []int, clean bool) {
	t.Helper()
	due := impl.OK
	if len(want) == 0 {
		due = impl.ErrNone
	}
	path, code := impl.FirstHarm(nodes)
	if !slices.Equal(path, want) || code != due {
		t.Errorf("FirstHarm(%.300s) = %v, %d, want %v, %d", brief(nodes), path, code, want, due)
	}
	if got := impl.Harmless(nodes); got != (len(want) == 0) {
		t.Errorf("Harmless(%.300s) = %v", brief(nodes), got)
	}
	if got := impl.Clean(nodes); got != clean {
		t.Errorf("Clean(%.300s) = %v", brief(nodes), got)
	}
}

// checkNeverHarm is promise 13: it builds the text of what is left again and again, as long as it means a tree, and answers how often it did.
func checkNeverHarm(t *testing.T, left []impl.Node) int {
	t.Helper()
	for k := range impl.MaxDepth + 1 {
		meant, code := impl.ReparseTimes(left, k)
		if code != impl.OK {
			return k
		}
		if _, harm := firstBy(meant, harmBy); harm || !impl.Harmless(meant) {
			t.Errorf("the text of %.300s, built %d times, means %.300s", brief(left), k, brief(meant))
		}
	}
	return impl.MaxDepth + 1
}

// dressedTrees are right trees by chance, of the names that the configurations of anyConfigs decide of, alike at every call.
func dressedTrees(n int) [][]impl.Node {
	var trees [][]impl.Node
	for i := range n {
		g := newGrower(int64(1000+i), 1+i%impl.MaxNodes)
		g.names = append(decidedNames(), "xmp", "svg", "math", "table", "li")
		trees = append(trees, g.tree(0))
	}
	return trees
}

// wideConfigs let stay, or unwrap, as much as they can.
func wideConfigs() []impl.Config {
	var list []impl.Config
	for _, told := range []string{
		"", "comments", "unwrap:svg/svg,math/math comments", "unwrap:p,b,style,xmp comments", "unwrap:svg/style,math/style,svg/xmp,svg/svg comments", "unwrap:svg,math,svg/g comments",
		"allow:style,xmp,svg/style,svg/svg,svg/a,math/math,math/style,p,b,a attrs:id,href,title,onclick comments", "allow:script+src,a+href,svg/use+xlink-href,svg/svg,b,p,iframe,style attrs:onclick data comments",
		"allow:script,style,xmp,iframe,svg/script,svg/svg unwrap:p,b,svg/g,svg/style comments", "remove:b unwrap:svg/svg,svg/style,svg/p drop:id comments",
	} {
		list = append(list, config(told))
	}
	return append(list, impl.DefaultConfig())
}

// harmPieces are what texts are made of that mean harm, or may come to mean it.
func harmPieces() []string {
	return append(buildPieces(),
		"<script>", "</script>", "<iframe src=x>", "<object>", "<embed>", "<frame>", "<base href=x>", "<use xlink-href=x>", "<a href=javascript:x>", "<a href=' Java\nScript:x' id=y>", "<img src=x onerror=y>", "<b onclick=x title=y>", "<p/onx>",
		"<a title='</style><script>'>", "<b id=\"--><script>\">", "<i title='<!--'>", "<g id='</svg><script>'>", "<a href='&#106;avascript:x'>", "<a title='&quot;><script>'>",
		"&lt;script&gt;", "&lt;/style&gt;", "&lt;/xmp&gt;&lt;script&gt;", "&lt;!--", "--&gt;", "&amp;lt;script&gt;", "<!--x-->", "<!--x--><script>", "<!-- > -->", "<!--a<script>-->", "<!->", "<?->", "<!--", "</style >", "</xmp>",
		"<svg><style>", "<math><xmp>", "<svg><p>", "<style><", "<xmp><", "<title>", "</title>", "<svg><script>", "<svg><iframe/>", "<math><style/>",
	)
}

// harmTexts are texts that are known to have come through sanitizers, and their like.
func harmTexts() []string {
	return []string{
		"<svg><style><a id=\"</style><script>x</script>\">", "<math><mi><table><li><style><!--</style><img title='--><img src=x onerror=y>'>", "<svg></p><style><a id='</style><img src=1 onerror=x>'>",
		"<math><style><b title='</style><script>x'>", "<svg><p><style><a title='</style><b onclick=x>'>", "<p><svg><style>&lt;/style&gt;&lt;script&gt;x&lt;/script&gt;</style></svg>", "<svg><style>&lt;script&gt;x</style><g/></svg>",
		"<style>&lt;script&gt;</style>", "<style><script></style>", "<xmp><script>x</script></xmp>", "<xmp>&lt;/xmp&gt;&lt;script&gt;</xmp>", "<style>a</sty</style>", "<svg><xmp><b title='</xmp><script>x'></b></xmp></svg>",
		"<!--><script>x</script>-->", "<!--x--!><script>x</script>-->", "<!-x><script>", "<!--><b title='-->", "<svg><!--<style>--><script>x", "<style><!--</style><script>x</script>-->", "<!--a--b--><b>", "<!--&lt;script&gt;-->", "<!->--><script>",
		"<a href=\"&#106;avascript:x\">", "<a href=' \x01javascript:x'>", "<a href=java&#10;script:x>", "<svg><a xlink-href=javascript:x>", "<a href=x href=javascript:x>", "<a HREF=JAVASCRIPT:x ONclick=y>", "<b title=\"&quot; onclick=&quot;x\">", "<b title='\" onclick=\"x'>",
		"<iframe><b></iframe><b>", "<svg><iframe><b title='</iframe><script>x'>", "<script><style></script><b></style>", "<svg><script><b title=\"</script><script>\">x", "<object><embed><use>", "<svg><use/><use xlink-href=x><g/></use></svg>", "<base href=//x><base>",
		"<li><svg><style><li title='</style><script>x'>", "<svg><math><style><xmp><b id='</style></xmp><script>'>", "<math><svg><math><style>x<i id='</style><embed>'>", "<xmp><style></xmp><b id='</style><script>'>", "<style><xmp></style><b id='</xmp><script>'>",
	}
}

func anyHarmText(random *rand.Rand) string { return anyBuildText(random, 40, harmPieces()) }
