package tests

import (
	"strings"
	"testing"

	"loop.example/g00788/impl"
)

// tagBy reads StartTag in another way than the program.
func tagBy(x impl.Node) string {
	parts := []string{x.Name}
	for _, a := range x.Attrs {
		parts = append(parts, a.Name+`="`+escapedValue(a.Value)+`"`)
	}
	return "<" + strings.Join(parts, " ") + ">"
}

// endBy is empty of what has no end.
func endBy(x impl.Node) string {
	if x.Space == 0 && among("br hr img input meta link base embed", x.Name) {
		return ""
	}
	return "</" + x.Name + ">"
}

// writtenBy reads Serialize in another way than the program: from a list of the nodes, and the elements that the next one may lie within.
func writtenBy(nodes []impl.Node) string {
	var text strings.Builder
	var above []impl.Node
	endAll := func(down int) {
		for len(above) > down {
			text.WriteString(endBy(above[len(above)-1]))
			above = above[:len(above)-1]
		}
	}
	for _, p := range listed(nodes) {
		endAll(len(p.path) - 1)
		raw := len(above) > 0 && above[len(above)-1].Space == 0 && among("style script xmp iframe", above[len(above)-1].Name)
		switch {
		case p.node.Kind == 1:
			text.WriteString(tagBy(p.node))
			above = append(above, p.node)
		case p.node.Kind == 3:
			text.WriteString("<!--" + p.node.Text + "-->")
		case raw:
			text.WriteString(p.node.Text)
		default:
			text.WriteString(escapedText(p.node.Text))
		}
	}
	endAll(0)
	return text.String()
}

// A meaning is what the functions of chapter 7 have to tell of a tree.
type meaning struct {
	text   string
	meant  []impl.Node
	stable bool
	code   int
}

func meaningBy(nodes []impl.Node) meaning {
	text := writtenBy(nodes)
	meant, code := builtBy(text)
	return meaning{text, meant, code == impl.OK && show(meant) == show(nodes), code}
}

// checkMeaning holds all functions of chapter 7 against one meaning, and looks at promise 9.
func checkMeaning(t *testing.T, nodes []impl.Node, want meaning) {
	t.Helper()
	if text, code := impl.Serialize(nodes); text != want.text || code != impl.OK {
		t.Errorf("Serialize(%.200s) = %.200q, %d, want %.200q", brief(nodes), text, code, want.text)
	}
	meant, code := impl.Reparse(nodes)
	if show(meant) != show(want.meant) || code != want.code {
		t.Errorf("Reparse(%.200s) = %.200s, %d, want %.200s, %d", brief(nodes), brief(meant), code, brief(want.meant), want.code)
	}
	if stable, code := impl.Stable(nodes); stable != want.stable || code != want.code {
		t.Errorf("Stable(%.200s) = %v, %d, want %v, %d", brief(nodes), stable, code, want.stable, want.code)
	}
	checkTimes(t, nodes, 0, nodes, impl.OK)
	checkTimes(t, nodes, 1, want.meant, want.code)
	if want.code != impl.OK {
		checkTimes(t, nodes, 2, nil, want.code)
		checkTimes(t, nodes, impl.MaxDepth, nil, want.code)
		return
	}
	checkStays(t, want.meant)
	again, code := builtBy(writtenBy(want.meant))
	checkTimes(t, nodes, 2, again, code)
	checkTimes(t, nodes, impl.MaxDepth, again, code)
}

func checkTimes(t *testing.T, nodes []impl.Node, k int, want []impl.Node, due int) {
	t.Helper()
	if got, code := impl.ReparseTimes(nodes, k); show(got) != show(want) || code != due {
		t.Errorf("ReparseTimes(%.200s, %d) = %.200s, %d, want %.200s, %d", brief(nodes), k, brief(got), code, brief(want), due)
	}
}

// checkStays takes what a text means: its own text means that, if it is no longer than a text may be.
func checkStays(t *testing.T, meant []impl.Node) bool {
	t.Helper()
	stable, code := impl.Stable(meant)
	if len(writtenBy(meant)) > 4096 {
		if stable || code != impl.ErrSize {
			t.Errorf("Stable(%.300s) = %v, %d, though its text is too long", brief(meant), stable, code)
		}
		return false
	}
	again, back := impl.Reparse(meant)
	if !stable || code != impl.OK || back != impl.OK || show(again) != show(meant) || !isTree(meant) {
		t.Errorf("a text means %.300s, whose text means %.300s: %v, %d, %d", brief(meant), brief(again), stable, code, back)
	}
	return true
}

// sized are right trees, of 60 nodes, whose texts have n bytes, from 2220 to 77820.
func sized(n int) []impl.Node {
	nodes := repeated(impl.Node{}, impl.MaxNodes)
	n -= impl.MaxNodes * len(`<a b="" c="" d="" e="" f="" g=""></a>`)
	for i := range nodes {
		nodes[i] = element("a")
		for _, name := range strings.Split("bcdefg", "") {
			here := min(n, 35*len("&quot;"))
			n -= here
			nodes[i] = withAttrs(nodes[i], name, strings.Repeat(`"`, here/6)+strings.Repeat("v", here%6))
		}
	}
	return nodes
}

// growing is a tree whose text is short, and means one whose text is too long: what is raw ahead is escaped then.
func growing() []impl.Node {
	style := element("style", words(strings.Repeat("&", impl.MaxWords)))
	return tree(inSpace(impl.SpSvg, "svg", repeated(style, 25)...))
}

// brokenTrees are right trees by chance, whose comments and raw texts end ahead of their own ends, so that their texts mean very different ones.
func brokenTrees(n int) [][]impl.Node {
	trees := grownTrees(n)
	for i, x := range trees {
		g := newGrower(int64(i), 0)
		breakWords(g, x)
		if i%4 == 0 {
			x = append(x, repeated(element("br"), impl.MaxNodes-len(listed(x)))...)
		}
		if depth, _ := impl.DepthOf(x); i%4 == 1 && depth > 0 {
			x = nested(impl.MaxDepth-depth, x...)
		}
		if impl.TreeOK(x) {
			trees[i] = x
		}
	}
	return trees
}

func breakWords(g *grower, nodes []impl.Node) {
	for i := range nodes {
		x := &nodes[i]
		breakWords(g, x.Kids)
		if x.Kind == impl.NdElement || g.Intn(3) == 0 {
			continue
		}
		x.Text = g.pick("-->", "--><b>", "</style>", "</xmp >", "&", "x") + g.text() + g.pick("<b>", "<p><br>", "<li><svg>", "<math><p>", "</p>", "<style>", "", "<b", "<!--", "<a href='") + g.text()
	}
}
