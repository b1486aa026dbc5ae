package tests

import (
	"math/rand"
	"slices"
	"strconv"
	"strings"

	"loop.example/g00788/impl"
)

func words(text string) impl.Node { return impl.Node{Kind: impl.NdText, Text: text} }

func comment(text string) impl.Node { return impl.Node{Kind: impl.NdComment, Text: text} }

func element(name string, kids ...impl.Node) impl.Node {
	return impl.Node{Kind: impl.NdElement, Name: name, Kids: kids}
}

func inSpace(space int, name string, kids ...impl.Node) impl.Node {
	return impl.Node{Kind: impl.NdElement, Space: space, Name: name, Kids: kids}
}

// withAttrs takes names and values by turns.
func withAttrs(x impl.Node, pairs ...string) impl.Node {
	for i := 0; i < len(pairs); i += 2 {
		x.Attrs = append(x.Attrs, impl.Attr{Name: pairs[i], Value: pairs[i+1]})
	}
	return x
}

func holding(x impl.Node, kids ...impl.Node) impl.Node {
	x.Kids = kids
	return x
}

func tree(nodes ...impl.Node) []impl.Node { return nodes }

// nested are n elements within one another, around the kids.
func nested(n int, kids ...impl.Node) []impl.Node {
	for range n {
		kids = tree(element("b", kids...))
	}
	return kids
}

func repeated(x impl.Node, n int) []impl.Node {
	var nodes []impl.Node
	for range n {
		nodes = append(nodes, x)
	}
	return nodes
}

// show tells trees apart; nil and empty lists are alike in it.
func show(nodes []impl.Node) string {
	var parts []string
	for _, x := range nodes {
		part := strconv.Itoa(x.Kind) + "." + strconv.Itoa(x.Space) + " " + strconv.Quote(x.Name) + " " + strconv.Quote(x.Text)
		for _, a := range x.Attrs {
			part += " " + strconv.Quote(a.Name) + "=" + strconv.Quote(a.Value)
		}
		parts = append(parts, part+"["+show(x.Kids)+"]")
	}
	return strings.Join(parts, ", ")
}

func copied(nodes []impl.Node) []impl.Node {
	var out []impl.Node
	for _, x := range nodes {
		x.Attrs = append([]impl.Attr(nil), x.Attrs...)
		x.Kids = copied(x.Kids)
		out = append(out, x)
	}
	return out
}

// withRoom has lists of the same elements with others behind their ends, and empty lists in the place of nil.
func withRoom(nodes []impl.Node) []impl.Node {
	out := make([]impl.Node, 0, len(nodes)+2)
	for _, x := range nodes {
		x.Attrs = append(append(make([]impl.Attr, 0, len(x.Attrs)+2), x.Attrs...), impl.Attr{Name: "behind"})[:len(x.Attrs)]
		x.Kids = withRoom(x.Kids)
		out = append(out, x)
	}
	return append(out, words("behind"))[:len(nodes)]
}

// spoil writes into all lists of a tree, and behind their ends.
func spoil(nodes []impl.Node) {
	nodes = nodes[:cap(nodes)]
	for i := range nodes {
		spoil(nodes[i].Kids)
		attrs := nodes[i].Attrs[:cap(nodes[i].Attrs)]
		for k := range attrs {
			attrs[k] = impl.Attr{Name: "spoilt", Value: "spoilt"}
		}
		nodes[i] = impl.Node{Kind: -1, Name: "spoilt"}
	}
}

// tagMembers are the members of all sorts that are no longer than a name.
func tagMembers() []string {
	return slices.DeleteFunc(allMembers(), func(name string) bool { return len(name) > impl.MaxName })
}

func rightTrees() [][]impl.Node {
	trees := [][]impl.Node{
		nil,
		{},
		tree(words("a")),
		tree(words(strings.Repeat("w", impl.MaxWords))),
		tree(words("<&>\"\x00\xff")),
		tree(comment("")),
		tree(comment(strings.Repeat("-", impl.MaxWords))),
		tree(comment("-->")),
		tree(element("p")),
		tree(element("a-1234567890")),
		tree(element("br"), element("img"), inSpace(impl.SpSvg, "br", words("a")), inSpace(impl.SpMath, "img", element("b"))),
		tree(element("style", words("a"), words("<b>")), element("script"), element("xmp", words("</xmp>"))),
		tree(inSpace(impl.SpSvg, "style", element("b"), comment("c")), inSpace(impl.SpMath, "script", comment(""), inSpace(impl.SpMath, "iframe", element("br")))),
		tree(element("svg", element("math")), inSpace(impl.SpMath, "svg"), inSpace(impl.SpSvg, "p")),
		tree(element("b", element("b", element("b")), element("i"), element("b"))),
		tree(words("a"), words("b"), element("b", words("c"), words("d"), comment("e"), words("f")), words("g"), words("h")),
		tree(words(strings.Repeat("a", 100)), words(strings.Repeat("b", 20)), words("c"), words(strings.Repeat("d", 119)), words("e")),
		tree(words(strings.Repeat("a", 100)), words(strings.Repeat("b", 21)), words(strings.Repeat("c", 99)), words("d")),
		tree(words(strings.Repeat("a", 120)), words(strings.Repeat("b", 120)), words("c"), words("d")),
		tree(element("style", words(strings.Repeat("a", 60)), words(strings.Repeat("b", 60)), words("c"))),
		tree(withAttrs(element("a"), "href", "", "class", strings.Repeat("v", impl.MaxValue))),
		tree(withAttrs(element("img"), "a", "1", "b", "1", "c", "1", "d", "1", "e", "1", "f", "1")),
		tree(withAttrs(inSpace(impl.SpMath, "mi", words("x")), "onclick", "\x00\xff\"<&>", "data-x", "'")),
		nested(impl.MaxDepth),
		nested(impl.MaxDepth-1, words("deep"), words("deep"), comment("deep")),
		repeated(words("x"), impl.MaxNodes),
		repeated(element("br"), impl.MaxNodes),
		tree(element("b", repeated(words("x"), impl.MaxNodes-1)...)),
		tree(append(nested(9, repeated(words("x"), 40)...), repeated(comment(""), 11)...)...),
		repeated(element("p", element("b", words("x"))), impl.MaxNodes/3),
	}
	for _, name := range tagMembers() {
		trees = append(trees, tree(element(name)), tree(inSpace(impl.SpSvg, name, element("p"), words("a"), comment("b"))), tree(inSpace(impl.SpMath, name, words("a"))))
	}
	return trees
}

// wrongNodes are no nodes of any tree, for one reason each.
func wrongNodes() []impl.Node {
	bad := []impl.Node{
		{}, {Kind: 4}, {Kind: -1}, {Kind: 4, Name: "b"}, {Kind: 0, Text: "a"}, {Kind: 1 << 40, Name: "b"}, {Kind: impl.NdElement + 1<<32, Name: "b"},
		words(""), words(strings.Repeat("w", impl.MaxWords+1)), words(strings.Repeat("w", impl.MaxText+1)), comment(strings.Repeat("c", impl.MaxWords+1)),
		element(""), element("A"), element("1a"), element("a b"), element("a_"), element("p\x00"), element("p\xff"), element("-a"), element("abcdefghijklm"),
		inSpace(-1, "b"), inSpace(3, "b"), inSpace(1<<32, "b"), {Kind: impl.NdElement, Name: "b", Text: "x"},
		element("br", words("x")), element("hr", element("b")), element("embed", comment("")),
		element("style", element("b")), element("style", comment("")), element("script", comment("a")), element("xmp", words("a"), element("xmp")),
		element("iframe", inSpace(impl.SpSvg, "a")), element("style", words("")), element("style", words("a"), words(strings.Repeat("w", impl.MaxWords+1))),
		withAttrs(element("b"), "", ""), withAttrs(element("b"), "A", ""), withAttrs(element("b"), "a=", ""), withAttrs(element("b"), "abcdefghijklm", ""),
		withAttrs(element("b"), "a", "1", "a", "1"), withAttrs(element("b"), "a", "1", "b", "2", "a", "3"),
		withAttrs(element("b"), "a", strings.Repeat("v", impl.MaxValue+1)), withAttrs(element("b"), "a", "", "b", strings.Repeat("v", impl.MaxValue+1)),
		withAttrs(element("img"), "a", "1", "b", "1", "c", "1", "d", "1", "e", "1", "f", "1", "g", "1"),
	}
	for _, x := range []impl.Node{words("a"), comment("a"), comment("")} {
		for _, space := range []int{-1, 1, 2, 3} {
			y := x
			y.Space = space
			bad = append(bad, y)
		}
		y := x
		y.Name = "b"
		bad = append(bad, y, withAttrs(x, "a", ""))
		for _, kid := range []impl.Node{words("a"), comment(""), element("b"), {}} {
			y = x
			y.Kids = tree(kid)
			bad = append(bad, y)
		}
	}
	return bad
}

func wrongTrees() [][]impl.Node {
	trees := [][]impl.Node{
		nested(impl.MaxDepth + 1),
		nested(impl.MaxDepth, words("x")),
		nested(impl.MaxDepth, comment("")),
		tree(append(nested(impl.MaxDepth), nested(impl.MaxDepth+1)...)...),
		repeated(words("x"), impl.MaxNodes+1),
		repeated(words("x"), impl.MaxList),
		tree(element("b", repeated(words("x"), impl.MaxNodes)...)),
		tree(element("b", repeated(words("x"), impl.MaxList+1)...)),
		repeated(element("p", element("b", words("x")), words("y"), words("z")), 13),
	}
	for _, x := range wrongNodes() {
		trees = append(trees, tree(x), tree(words("a"), x), tree(x, element("p")), tree(element("p", x)), nested(9, x), tree(inSpace(impl.SpSvg, "g", words("a"), x)))
	}
	return trees
}

// hugeTrees are no trees, and too large to be looked at as a whole.
func hugeTrees() [][]impl.Node {
	return [][]impl.Node{nested(1000000), endless(), teeming(), tree(teeming()[:impl.MaxNodes]...), tree(element("p", endless()...))}
}

// endless lies within itself.
func endless() []impl.Node {
	x := tree(element("b"), element("i"))
	x[0].Kids = x
	x[1].Kids = x[:1]
	return x
}

// teeming has more nodes than an int can count, ten within one another.
func teeming() []impl.Node {
	kids := repeated(words("x"), impl.MaxList)
	for range impl.MaxDepth - 1 {
		kids = repeated(element("b", kids...), impl.MaxList)
	}
	return kids
}

// longTrees are longer than a list may be.
func longTrees() [][]impl.Node {
	return [][]impl.Node{repeated(words("x"), impl.MaxList+1), make([]impl.Node, impl.MaxList+1), repeated(element("b", words("x")), 2*impl.MaxList)}
}

// A grower grows right trees of any shape.
type grower struct {
	*rand.Rand
	room  int
	names []string
}

func newGrower(seed int64, room int) *grower {
	names := append(tagMembers(), "p", "p", "b", "li", "ul", "style", "br", "svg", "math", "xmp")
	return &grower{rand.New(rand.NewSource(seed)), room, names}
}

func (g *grower) pick(list ...string) string { return list[g.Intn(len(list))] }

func (g *grower) text() string {
	var text strings.Builder
	for range g.Intn(4) {
		text.WriteString(g.pick("a", "b c", "<", ">", "&", "&lt;", "--", "-", "-->", "\"", "</p>", "<b>", "</style>", "javascript:", "\n", "\x00", "\xff", "é"))
	}
	return text.String()
}

func (g *grower) tree(depth int) []impl.Node {
	var nodes []impl.Node
	for depth < impl.MaxDepth && g.room > 0 && g.Intn(depth+4) < 3 {
		g.room--
		switch g.Intn(4) {
		case 0:
			nodes = append(nodes, words("w"+strings.Repeat(g.pick("", "v"), g.Intn(impl.MaxWords-50))+g.text()))
		case 1:
			nodes = append(nodes, comment(g.text()))
		default:
			nodes = append(nodes, g.element(depth))
		}
	}
	return nodes
}

func (g *grower) element(depth int) impl.Node {
	x := inSpace([]int{0, 0, 0, 1, 2}[g.Intn(5)], g.pick(g.names...))
	used := map[string]bool{}
	for range g.Intn(3) {
		name := g.pick("href", "src", "class", "id", "onclick", "on", "data-x", "data-", "style", "xlink-href", "action")
		if !used[name] {
			used[name] = true
			x = withAttrs(x, name, g.pick("", "a", " JavaScript:x", "<\">&", "&lt;", g.text()))
		}
	}
	switch {
	case x.Space == impl.SpHtml && impl.IsVoid(x.Name):
	case x.Space == impl.SpHtml && impl.IsRaw(x.Name):
		for g.room > 0 && g.Intn(2) == 0 {
			g.room--
			x.Kids = append(x.Kids, words("r"+g.text()))
		}
	default:
		x.Kids = g.tree(depth + 1)
	}
	return x
}

// grownTrees are right trees by chance, alike at every call.
func grownTrees(n int) [][]impl.Node {
	var trees [][]impl.Node
	for i := range n {
		trees = append(trees, newGrower(int64(i), 1+i%impl.MaxNodes).tree(0))
	}
	return trees
}
