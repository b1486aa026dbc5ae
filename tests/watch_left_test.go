package tests

import (
	"slices"
	"strings"
	"testing"

	"loop.example/g00788/impl"
)

// TestTreesSanitizedTwice has a configuration of each kind, of trees with elements that are unwrapped within others, and go, and texts that come to stand side by side.
func TestTreesSanitizedTwice(t *testing.T) {
	b := func(kids ...impl.Node) impl.Node { return element("b", kids...) }
	list := [][]impl.Node{
		nil, tree(words("a")), tree(b()), nested(10), nested(9, words("a"), words("b")), tree(words("a"), b(words("b")), words("c")), tree(b(words("a")), b(b(words("b")), b(words("c"))), b(b(), words("d"))),
		tree(element("p", b(element("p", b(words("a")), words("b"))))), tree(b(inSpace(2, "script", b(words("a"))), words("b"))), tree(element("script"), b(inSpace(1, "use", b())), element("object", words("a"))),
		tree(element("style", words("a"), words("<")), b(element("style", words("a"))), element("xmp", words("<"))), tree(svg(inSpace(1, "style", words("<"), b(comment("--")))), comment("a"), comment("-a"), b(comment(""))),
		tree(withAttrs(element("a", withAttrs(b(), "href", "x", "onclick", "y")), "id", "1", "href", " javascript:", "data-x", "2", "class", "3", "onx", "4")), repeated(b(words("a")), 30), tree(b(element("br")), element("br"), inSpace(2, "br", b(words("a")))),
	}
	for _, told := range []string{
		"", "comments", "allow:", "allow:b", "allow:p,style,svg/svg unwrap:b", "allow:b unwrap:p,svg/svg comments", "allow:script,a+href attrs:", "remove:b", "remove:p,style unwrap:b", "unwrap:b", "unwrap:b,p,a,svg/svg,br,math/br comments",
		"unwrap:style,xmp", "unwrap:script,object,svg/use", "attrs:", "attrs:id,href,onclick", "attrs: data", "allow:a+data-x,b+href attrs:id data", "drop:id", "drop:href,class unwrap:b", "remove:svg/style drop:id comments",
	} {
		for _, nodes := range append(list, rightTrees()...) {
			checkLeftOnce(t, nodes, config(told))
			checkSurvivors(t, nodes, config(told), survivorsBy(nodes, config(told))...)
		}
	}
	for _, nodes := range list {
		checkLeftOnce(t, nodes, impl.DefaultConfig())
	}
}

// TestWhatIsLeftStandsThereByHand tells what is left as lines, too.
func TestWhatIsLeftStandsThereByHand(t *testing.T) {
	for _, v := range []struct {
		told  string
		nodes []impl.Node
		lines []string
	}{
		{"unwrap:b", tree(words("a"), element("b", words("b"), element("b", words("c"))), words("d")), []string{"text a", "text b", "text c", "text d"}},
		{"unwrap:b", tree(element("b", element("p", element("b", words("a")), words("b")))), []string{"element 0 p", "text a", "text b"}},
		{"remove:b", tree(words("a"), element("b", words("a")), words("a")), []string{"text a", "text a"}},
		{"unwrap:svg/svg comments", tree(svg(inSpace(1, "g", comment("a")), comment("--"), element("p"))), []string{"element 1 g", "comment a", "element 0 p"}},
		{"", tree(element("script", words("a")), inSpace(1, "script"), element("p", element("style", words("<"))), comment("a")), []string{"element 0 p"}},
		{"allow:", tree(element("p", words("a")), words("b"), comment("c")), []string{"text b"}},
	} {
		left := checkLeftOnce(t, v.nodes, config(v.told))
		checkFlat(t, left, v.lines...)
	}
}

func TestSurvivors(t *testing.T) {
	x := tree(element("p", words("a"), element("i", element("p")), element("b")), svg(inSpace(1, "p"), inSpace(1, "b")), element("i"), comment("c"), element("script", words("d")), inSpace(2, "b"), element("u"))
	for _, v := range []struct {
		told  string
		nodes []impl.Node
		names string
	}{
		{"", nil, ""}, {"comments", tree(words("p"), comment("b")), ""}, {"allow:", x, ""}, {"remove:p,i,u unwrap:svg/svg,svg/p,svg/b,math/b", x, ""}, {"allow:a", tree(element("p", element("a"))), ""}, {"", tree(inSpace(1, "script", element("style"), words("p"))), ""}, {"unwrap:b", nested(10), ""},
		{"", x, "p i b svg u"}, {"allow:p", x, "p"}, {"allow:b,u,p", x, "p b u"}, {"allow:u,svg/svg,svg/b,i", x, "svg b i u"}, {"allow:svg/p,svg/svg", x, "svg p"}, {"allow:math/b,i", x, "i b"}, {"remove:p", x, "svg p b i u"}, {"remove:svg/svg,i", x, "p b u"},
		{"unwrap:p", x, "i b svg p u"}, {"unwrap:svg/svg,p,i", x, "b p u"}, {"unwrap:p,i,u allow:b", x, "b"}, {"unwrap:i", nested(10), "b"}, {"", nested(10), "b"}, {"", repeated(element("br"), 60), "br"}, {"allow:script,use", tree(element("script"), inSpace(1, "use"), element("base")), ""},
		{"", tree(element("style", words("<")), element("xmp"), element("style")), "xmp style"}, {"", tree(element("z"), element("y", element("x")), element("z", element("w")), inSpace(1, "y")), "z y x w"}, {"attrs:", tree(withAttrs(element("a"), "href", "javascript:")), "a"},
	} {
		checkSurvivors(t, v.nodes, config(v.told), strings.Fields(v.names)...)
	}
	var many []impl.Node
	for _, name := range numbered("a", 60) {
		many = append(many, element(name))
	}
	checkSurvivors(t, many, config(""), numbered("a", 60)...)
	checkSurvivors(t, x, impl.DefaultConfig(), "p", "i", "b")
}

// TestWatchedTreesLeft has for each sort of trees what Survivors, SanitizedTwice and PartOf tell of it by some configurations.
func TestWatchedTreesLeft(t *testing.T) {
	configs := slices.Concat(rightConfigs(), wideConfigs(), anyConfigs(100))
	told := map[string]int{}
	for i, nodes := range slices.Concat(rightTrees(), grownTrees(200), brokenTrees(200), dressedTrees(400), mutantTrees(200)) {
		for k := range 5 {
			c := configs[(i*5+k)%len(configs)]
			left := checkLeftOnce(t, nodes, c)
			checkFlat(t, left, flattenedBy(left)...)
			names := survivorsBy(nodes, c)
			checkSurvivors(t, nodes, c, names...)
			isPermitted := permittedBy(nodes, c)
			if isPermitted && show(left) != show(nodes) {
				t.Errorf("%s permits %.300s, and leaves %.300s", showConfig(c), brief(nodes), brief(left))
			}
			told[map[bool]string{true: "permitted", false: "changed"}[isPermitted]]++
			told[map[bool]string{true: "named", false: "nameless"}[len(names) > 0]]++
			if len(left) > 0 && len(listed(left)) < len(listed(nodes)) {
				told["less"]++
			}
		}
	}
	for _, sort := range []string{"permitted", "changed", "named", "nameless", "less"} {
		if told[sort] < 300 {
			t.Error("too few of one sort", told)
		}
	}
}

// permittedBy tells, node by node, whether a right configuration lets all stay.
func permittedBy(nodes []impl.Node, c impl.Config) bool {
	return !slices.ContainsFunc(listed(nodes), func(p placed) bool {
		goes := func(a impl.Attr) bool { return !attrStaysBy(c, elementOf(p.node.Space, p.node.Name), a) }
		return fateBy(p.node, c) != "stays" || slices.ContainsFunc(p.node.Attrs, goes)
	})
}

// TestPartsOfAnyTrees has some nodes left out by chance, and some nodes changed.
func TestPartsOfAnyTrees(t *testing.T) {
	told := map[bool]int{}
	trees := slices.Concat(grownTrees(150), dressedTrees(150), mutantTrees(150))
	for i, nodes := range trees {
		g := newGrower(int64(i), 0)
		for range 6 {
			other := fewer(g, nodes)
			if x := somewhere(g, other); x != nil && g.Intn(2) == 0 {
				*x = []impl.Node{words("x"), comment("y"), element("b"), inSpace(1, x.Name+"b")}[g.Intn(4)]
			}
			if !impl.TreeOK(other) {
				continue
			}
			want := isPartBy(flattenedBy(other), flattenedBy(nodes))
			told[want]++
			checkPart(t, other, nodes, want)
			checkPart(t, nodes, other, isPartBy(flattenedBy(nodes), flattenedBy(other)))
		}
		next := trees[(i+1)%len(trees)]
		checkPart(t, nodes, next, isPartBy(flattenedBy(nodes), flattenedBy(next)))
	}
	if told[true] < 300 || told[false] < 300 {
		t.Error("too few of one sort", told)
	}
}

// fewer leaves out some nodes, of which the Kids come to stand in their places.
func fewer(g *grower, nodes []impl.Node) []impl.Node {
	var left []impl.Node
	for _, x := range copied(nodes) {
		kids := fewer(g, x.Kids)
		if g.Intn(8) == 0 {
			left = append(left, kids...)
			continue
		}
		left = append(left, holding(x, kids...))
	}
	return left
}
