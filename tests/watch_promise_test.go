package tests

import (
	"math/rand"
	"slices"
	"strings"
	"testing"

	"loop.example/g00788/impl"
)

// TestTreesThatTextsMeanAreBuiltAgain is promise 8.
func TestTreesThatTextsMeanAreBuiltAgain(t *testing.T) {
	random := rand.New(rand.NewSource(21))
	codes := map[int]int{}
	check := func(s string) {
		t.Helper()
		due := againBy(s)
		codes[due]++
		checkAgain(t, s, due)
		if meant, code := impl.Build(s); code == impl.OK && due == impl.OK {
			again, code := impl.Reparse(meant)
			if show(again) != show(meant) || code != impl.OK {
				t.Errorf("%.300q means %.300s, whose text means %.300s, %d", s, brief(meant), brief(again), code)
			}
		}
	}
	for range 5000 {
		check(anyBuildText(random, 40, buildPieces()))
		check(anyTokenText(random, 30))
		check(anyHarmText(random))
	}
	for range 1000 {
		check(anyBuildText(random, 150, widePieces()))
		check(strings.Repeat("<b a=\""+strings.Repeat("&<>'", random.Intn(11))+"\"></b>", 1+random.Intn(60)))
	}
	for _, s := range slices.Concat(manyTexts(), harmTexts()) {
		check(s)
	}
	for _, nodes := range slices.Concat(rightTrees(), grownTrees(300), brokenTrees(300), mutantTrees(300)) {
		check(writtenBy(nodes))
	}
	if codes[impl.OK] < 10000 || codes[impl.ErrSize] < 100 || codes[impl.ErrDeep] < 50 || codes[impl.ErrMany] < 50 || codes[impl.ErrLong] < 5 {
		t.Error("too few of one sort", codes)
	}
}

// hide takes the harm of a tree's nodes away, and has some words that mean harm when they are read as more.
func (g *grower) hide(nodes []impl.Node) []impl.Node {
	nodes = copied(nodes)
	for i := range nodes {
		x := &nodes[i]
		x.Kids = g.hide(x.Kids)
		x.Attrs = slices.DeleteFunc(x.Attrs, harmfulBy)
		if among(bannedNames, x.Name) {
			x.Name = "title"
		}
		if x.Kind != impl.NdElement && g.Intn(2) == 0 {
			x.Text = g.pick("--></style></xmp>", "-->", "</style>", "x") + g.pick("<script>", "<embed>", "<i onx=y>", "<a href=javascript:x>", "<b>")
		}
	}
	return nodes
}

// TestWhatIsLeftIsSafe is promise 13, beside promise 11, of trees many of which mean harm themselves, at once or later.
func TestWhatIsLeftIsSafe(t *testing.T) {
	wide, any := wideConfigs(), anyConfigs(60)
	trees := slices.Concat(rightTrees(), grownTrees(150), brokenTrees(300), mutantTrees(400), [][]impl.Node{sized(4000), sized(5000), growing()})
	for i, nodes := range mutantTrees(600) {
		trees = append(trees, newGrower(int64(i), 0).hide(nodes))
	}
	from := map[int]int{}
	for i, nodes := range trees {
		for _, c := range []impl.Config{wide[i%len(wide)], any[i%len(any)]} {
			checkSafelyLeft(t, nodes, checkLeftOnce(t, nodes, c))
		}
		from[harmFromBy(nodes)]++
	}
	if from[0] < 200 || from[1] < 100 || from[never] < 200 {
		t.Error("too few of one sort", from)
	}
}

// TestWhatIsLeftOfTextsIsSafe is promise 13 of trees that texts mean, and of the texts of what is left of them.
func TestWhatIsLeftOfTextsIsSafe(t *testing.T) {
	random := rand.New(rand.NewSource(22))
	configs := append(wideConfigs(), anyConfigs(40)...)
	meant := 0
	check := func(i int, s string) {
		t.Helper()
		nodes, code := impl.Build(s)
		if code != impl.OK {
			return
		}
		meant++
		left := checkLeftOnce(t, nodes, configs[i%len(configs)])
		checkSafelyLeft(t, nodes, left)
		checkAgain(t, writtenBy(left), againBy(writtenBy(left)))
	}
	for i := range 1500 {
		check(i, anyHarmText(random))
		check(i, anyTokenText(random, 30))
	}
	for _, s := range harmTexts() {
		for i := range configs {
			check(i, s)
		}
	}
	if meant < 3000 {
		t.Error("too few texts", meant)
	}
}

// TestSmallTreesAreWatched has all trees of some shapes, of few kinds of nodes that break out, end others, or are raw.
func TestSmallTreesAreWatched(t *testing.T) {
	kinds := []impl.Node{svg(), inSpace(2, "math"), inSpace(1, "style"), inSpace(2, "xmp"), element("style"), element("xmp"), element("p"), inSpace(1, "p"), withAttrs(inSpace(1, "b"), "title", "</style><script>"), element("script")}
	leaves := []impl.Node{words("</style><script>"), words("<embed>"), words("&lt;"), comment("x"), comment("--><i onx=y>"), withAttrs(element("img"), "src", "javascript:x")}
	configs := []impl.Config{config("comments"), config("unwrap:svg/svg,math/math,p comments"), config("unwrap:svg/style,style,svg/b"), impl.DefaultConfig()}
	tried, harmful := 0, 0
	check := func(nodes ...impl.Node) {
		t.Helper()
		if !impl.TreeOK(nodes) {
			return
		}
		tried++
		if checkSafelyLeft(t, nodes, checkLeftOnce(t, nodes, configs[tried%len(configs)])) {
			harmful++
		}
	}
	for _, a := range kinds {
		for _, leaf := range leaves {
			check(holding(a, leaf), leaf)
			for _, b := range kinds {
				check(holding(a, holding(b, leaf), leaf), leaf)
				check(holding(a, leaf), holding(b, leaf))
			}
		}
	}
	if tried < 700 || harmful < 300 || harmful > tried-100 {
		t.Error("too few of one sort", tried, harmful)
	}
}
