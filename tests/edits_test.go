package tests

import (
	"math"
	"slices"
	"strings"
	"testing"

	"loop.example/g00788/impl"
)

// edited is the tree of most edits by hand, with a node of each sort.
func edited() []impl.Node {
	return tree(
		withAttrs(element("p", words("a"), element("b", words("c"))), "id", "x"), element("br"), words("d"), comment("e"), element("style", words("f")),
		inSpace(1, "svg", inSpace(1, "br", words("g")), inSpace(1, "style")), element("i"),
	)
}

// Two parts of that tree in brief.
const (
	partP   = `p id="x"["a" b["c"]]`
	partSvg = `svg/svg[svg/br["g"] svg/style[]]`
)

func TestWhatIsInserted(t *testing.T) {
	n := words("N")
	for _, v := range []struct {
		path []int
		want string
	}{
		{[]int{0}, `"N" ` + partP + ` br[] "d" !"e" style["f"] ` + partSvg + ` i[]`},
		{[]int{1}, partP + ` "N" br[] "d" !"e" style["f"] ` + partSvg + ` i[]`},
		{[]int{3}, partP + ` br[] "d" "N" !"e" style["f"] ` + partSvg + ` i[]`},
		{[]int{6}, partP + ` br[] "d" !"e" style["f"] ` + partSvg + ` "N" i[]`},
		{[]int{7}, partP + ` br[] "d" !"e" style["f"] ` + partSvg + ` i[] "N"`},
		{[]int{0, 0}, `p id="x"["N" "a" b["c"]] br[] "d" !"e" style["f"] ` + partSvg + ` i[]`},
		{[]int{0, 1}, `p id="x"["a" "N" b["c"]] br[] "d" !"e" style["f"] ` + partSvg + ` i[]`},
		{[]int{0, 2}, `p id="x"["a" b["c"] "N"] br[] "d" !"e" style["f"] ` + partSvg + ` i[]`},
		{[]int{0, 1, 0}, `p id="x"["a" b["N" "c"]] br[] "d" !"e" style["f"] ` + partSvg + ` i[]`},
		{[]int{0, 1, 1}, `p id="x"["a" b["c" "N"]] br[] "d" !"e" style["f"] ` + partSvg + ` i[]`},
		{[]int{4, 0}, partP + ` br[] "d" !"e" style["N" "f"] ` + partSvg + ` i[]`},
		{[]int{4, 1}, partP + ` br[] "d" !"e" style["f" "N"] ` + partSvg + ` i[]`},
		{[]int{5, 0, 0}, partP + ` br[] "d" !"e" style["f"] svg/svg[svg/br["N" "g"] svg/style[]] i[]`},
		{[]int{5, 1, 0}, partP + ` br[] "d" !"e" style["f"] svg/svg[svg/br["g"] svg/style["N"]] i[]`},
		{[]int{6, 0}, partP + ` br[] "d" !"e" style["f"] ` + partSvg + ` i["N"]`},
	} {
		checkMade(t, edited(), inserting(n, v.path...), v.want)
	}
	for _, nodes := range [][]impl.Node{nil, {}} {
		checkMade(t, nodes, inserting(n, 0), `"N"`)
		checkEditCode(t, nodes, inserting(n, 1), impl.ErrPlace)
		checkEditCode(t, nodes, inserting(n, 0, 0), impl.ErrPlace)
	}
}

// TestInsertedNodesOfAnySort have Attrs and Kids of their own, and come beside alike ones.
func TestInsertedNodesOfAnySort(t *testing.T) {
	x := withAttrs(inSpace(2, "mi", words("y"), element("br"), comment("z")), "on", "1", "href", "javascript:")
	p := tree(element("p", words("a")))
	checkMade(t, p, inserting(x, 0, 1), `p["a" math/mi on="1" href="javascript:"["y" br[] !"z"]]`)
	checkMade(t, p, inserting(p[0], 1), `p["a"] p["a"]`)
	checkMade(t, p, inserting(p[0], 0, 1), `p["a" p["a"]]`)
	checkMade(t, p, inserting(words("a"), 0, 0), `p["a" "a"]`)
	checkMade(t, p, inserting(comment(""), 0, 0), `p[!"" "a"]`)
	checkMade(t, p, inserting(comment("-->"), 0), `!"-->" p["a"]`)
	checkMade(t, p, inserting(element("br"), 0, 1), `p["a" br[]]`)
	checkMade(t, p, inserting(element("style", words("<"), words("</style>")), 1), `p["a"] style["<" "</style>"]`)
	checkMade(t, p, inserting(inSpace(1, "script", element("p")), 0, 0), `p[svg/script[p[]] "a"]`)
	checkMade(t, p, inserting(words("\x00\xff<&>\""), 0, 1), `p["a" "\x00\xff<&>\""]`)
	for _, name := range []string{"style", "script", "xmp", "iframe"} {
		raw := tree(words("a"), element(name))
		checkMade(t, raw, inserting(words("<b>"), 1, 0), `"a" `+name+`["<b>"]`)
		for _, other := range []impl.Node{element("b"), comment(""), comment("x"), element("br"), inSpace(1, "style"), element(name)} {
			checkEditCode(t, raw, inserting(other, 1, 0), impl.ErrFull)
			checkEditCode(t, raw, inserting(other, 1, 1), impl.ErrPlace)
			for space := 1; space <= 2; space++ {
				checkMade(t, tree(inSpace(space, name)), inserting(other, 0, 0), brief(tree(inSpace(space, name, other))))
			}
		}
	}
}

// TestNothingIsInsertedWhereNothingMayBe has the place 0 in Kids that are empty, and must be so, and the place 1 that is not there.
func TestNothingIsInsertedWhereNothingMayBe(t *testing.T) {
	nodes := edited()
	for _, x := range []impl.Node{words("N"), comment(""), element("b"), element("br"), inSpace(1, "g", words("x"))} {
		for _, path := range [][]int{{1, 0}, {2, 0}, {3, 0}, {0, 0, 0}, {0, 1, 0, 0}, {4, 0, 0}, {5, 0, 0, 0}} {
			checkEditCode(t, nodes, inserting(x, path...), impl.ErrFull)
			path[len(path)-1] = 1
			checkEditCode(t, nodes, inserting(x, path...), impl.ErrPlace)
			path[len(path)-1] = -1
			checkEditCode(t, nodes, inserting(x, path...), impl.ErrPlace)
		}
		for _, path := range [][]int{{1, 0, 0}, {2, 0, 0}, {3, 0, 0}, {2, 0, 0, 0}, {4, 0, 0, 0}, {4, 1, 0}, {6, 0, 0}, {8}, {7, 0}, {0, 3}, {0, 1, 2}, {6, 1}} {
			checkEditCode(t, nodes, inserting(x, path...), impl.ErrPlace)
		}
	}
	for _, name := range strings.Fields("br hr img input meta link base embed") {
		checkEditCode(t, tree(element(name)), inserting(words("N"), 0, 0), impl.ErrFull)
		checkMade(t, tree(inSpace(1, name)), inserting(words("N"), 0, 0), "svg/"+name+`["N"]`)
		checkMade(t, tree(inSpace(2, name)), inserting(element(name), 0, 0), "math/"+name+"["+name+"[]]")
	}
}

func TestWhatIsRemoved(t *testing.T) {
	for _, v := range []struct {
		path []int
		want string
	}{
		{[]int{0}, `br[] "d" !"e" style["f"] ` + partSvg + ` i[]`},
		{[]int{1}, partP + ` "d" !"e" style["f"] ` + partSvg + ` i[]`},
		{[]int{2}, partP + ` br[] !"e" style["f"] ` + partSvg + ` i[]`},
		{[]int{3}, partP + ` br[] "d" style["f"] ` + partSvg + ` i[]`},
		{[]int{4}, partP + ` br[] "d" !"e" ` + partSvg + ` i[]`},
		{[]int{5}, partP + ` br[] "d" !"e" style["f"] i[]`},
		{[]int{6}, partP + ` br[] "d" !"e" style["f"] ` + partSvg},
		{[]int{0, 0}, `p id="x"[b["c"]] br[] "d" !"e" style["f"] ` + partSvg + ` i[]`},
		{[]int{0, 1}, `p id="x"["a"] br[] "d" !"e" style["f"] ` + partSvg + ` i[]`},
		{[]int{0, 1, 0}, `p id="x"["a" b[]] br[] "d" !"e" style["f"] ` + partSvg + ` i[]`},
		{[]int{4, 0}, partP + ` br[] "d" !"e" style[] ` + partSvg + ` i[]`},
		{[]int{5, 0}, partP + ` br[] "d" !"e" style["f"] svg/svg[svg/style[]] i[]`},
		{[]int{5, 0, 0}, partP + ` br[] "d" !"e" style["f"] svg/svg[svg/br[] svg/style[]] i[]`},
	} {
		checkMade(t, edited(), removing(v.path...), v.want)
	}
	checkMade(t, tree(words("x")), removing(0), "")
	checkMade(t, tree(comment("")), removing(0), "")
	checkMade(t, nested(10), removing(0), "")
	checkMade(t, nested(10), removing(0, 0, 0, 0, 0, 0, 0, 0, 0, 0), brief(nested(9)))
	checkMade(t, repeated(words("x"), 60), removing(59), brief(repeated(words("x"), 59)))
	checkMade(t, tree(words("a"), element("b"), words("c")), removing(1), `"a" "c"`)
}

// TestPathsThatLeadNowhere are those of all calls.
func TestPathsThatLeadNowhere(t *testing.T) {
	for _, path := range [][]int{
		nil, {}, {-1}, {8}, {math.MinInt}, {math.MaxInt}, {1 << 32}, {-1 << 32}, {0, -1}, {0, 3}, {0, math.MaxInt}, {-1, 0}, {8, 0}, {math.MaxInt, 0}, {math.MinInt, 0},
		{0, -1, 0}, {0, 2, 0}, {0, 1, 2}, {0, 1, math.MinInt}, {0, 0, 0, 0}, {1, 0, 0}, {2, 0, 0}, {3, 0, 0}, {1, 1}, {2, 1}, {3, 1}, {4, 2}, {4, 0, 1}, {6, 1}, {6, 0, 0},
		make([]int, 11), make([]int, impl.MaxList),
	} {
		for _, e := range editsAt(path...) {
			checkEditCode(t, edited(), e, impl.ErrPlace)
			checkEditCode(t, nil, e, impl.ErrPlace)
		}
	}
	for _, path := range [][]int{{7}, {0, 2}, {0, 1, 1}, {1, 0}, {2, 0}, {3, 0}, {0, 0, 0}, {4, 1}, {6, 0}} {
		for _, e := range editsAt(path...)[1:] {
			checkEditCode(t, edited(), e, impl.ErrPlace)
		}
	}
	for _, e := range editsAt(make([]int, impl.MaxList+1)...) {
		checkEditCode(t, edited(), e, impl.ErrLong)
		checkEditCode(t, nil, e, impl.ErrLong)
	}
}

func TestAttrsThatAreSet(t *testing.T) {
	long := strings.Repeat("v", impl.MaxValue)
	three := withAttrs(element("p", words("a")), "id", "1", "on", "2", "href", "3")
	six := withAttrs(element("b"), "a", "1", "b", "2", "c", "3", "d", "4", "e", "5", "f", "6")
	nodes := tree(three, element("i", six, element("u")), inSpace(1, "g"), element("br"), element("style", words("x")))
	rest := ` i[b a="1" b="2" c="3" d="4" e="5" f="6"[] u[]] svg/g[] br[] style["x"]`
	for _, v := range []struct {
		name, value string
		path        []int
		want        string
	}{
		{"id", "y", []int{0}, `p id="y" on="2" href="3"["a"]` + rest},
		{"on", "y", []int{0}, `p id="1" on="y" href="3"["a"]` + rest},
		{"href", "javascript:", []int{0}, `p id="1" on="2" href="javascript:"["a"]` + rest},
		{"on", "2", []int{0}, `p id="1" on="2" href="3"["a"]` + rest},
		{"on", "", []int{0}, `p id="1" on="" href="3"["a"]` + rest},
		{"a", "", []int{0}, `p id="1" on="2" href="3" a=""["a"]` + rest},
		{"a-23456789bc", long, []int{0}, `p id="1" on="2" href="3" a-23456789bc="` + long + `"["a"]` + rest},
		{"id", "\x00\xff\"<>&", []int{0}, `p id="\x00\xff\"<>&" on="2" href="3"["a"]` + rest},
		{"a", "y", []int{1, 0}, `p id="1" on="2" href="3"["a"] i[b a="y" b="2" c="3" d="4" e="5" f="6"[] u[]] svg/g[] br[] style["x"]`},
		{"c", long, []int{1, 0}, `p id="1" on="2" href="3"["a"] i[b a="1" b="2" c="` + long + `" d="4" e="5" f="6"[] u[]] svg/g[] br[] style["x"]`},
		{"f", "", []int{1, 0}, `p id="1" on="2" href="3"["a"] i[b a="1" b="2" c="3" d="4" e="5" f=""[] u[]] svg/g[] br[] style["x"]`},
		{"g", "h", []int{1, 1}, `p id="1" on="2" href="3"["a"] i[b a="1" b="2" c="3" d="4" e="5" f="6"[] u g="h"[]] svg/g[] br[] style["x"]`},
		{"g", "h", []int{1}, `p id="1" on="2" href="3"["a"] i g="h"[b a="1" b="2" c="3" d="4" e="5" f="6"[] u[]] svg/g[] br[] style["x"]`},
		{"g", "h", []int{2}, `p id="1" on="2" href="3"["a"] i[b a="1" b="2" c="3" d="4" e="5" f="6"[] u[]] svg/g g="h"[] br[] style["x"]`},
		{"g", "h", []int{3}, `p id="1" on="2" href="3"["a"] i[b a="1" b="2" c="3" d="4" e="5" f="6"[] u[]] svg/g[] br g="h"[] style["x"]`},
		{"g", "h", []int{4}, `p id="1" on="2" href="3"["a"] i[b a="1" b="2" c="3" d="4" e="5" f="6"[] u[]] svg/g[] br[] style g="h"["x"]`},
	} {
		checkMade(t, nodes, settingAttr(v.name, v.value, v.path...), v.want)
	}
	for _, name := range []string{"g", "aa", "on", "abcdefghijkl"} {
		checkEditCode(t, nodes, settingAttr(name, "", 1, 0), impl.ErrFull)
	}
	for _, path := range [][]int{{2}, {3}, {0, 0}, {0, 1, 0}, {4, 0}, {5, 0, 0}} {
		checkEditCode(t, edited(), settingAttr("id", "x", path...), impl.ErrKind)
	}
}

// TestWrongAttrsAreNotSet has places and kinds that are wrong, too: these are told behind.
func TestWrongAttrsAreNotSet(t *testing.T) {
	for _, a := range wrongAttrs() {
		for _, path := range [][]int{{0}, {0, 1}, {2}, {8}, nil, {-1}} {
			checkEditCode(t, edited(), settingAttr(a.Name, a.Value, path...), impl.ErrBad)
			checkEditCode(t, nil, settingAttr(a.Name, a.Value, path...), impl.ErrBad)
		}
	}
}

func TestAttrsThatAreDropped(t *testing.T) {
	nodes := tree(withAttrs(element("p", withAttrs(element("br"), "id", "x")), "id", "1", "on", "2", "href", "3"), inSpace(2, "mi", words("x")), comment("id"))
	rest := `[br id="x"[]] math/mi["x"] !"id"`
	checkMade(t, nodes, droppingAttr("id", 0), `p on="2" href="3"`+rest)
	checkMade(t, nodes, droppingAttr("on", 0), `p id="1" href="3"`+rest)
	checkMade(t, nodes, droppingAttr("href", 0), `p id="1" on="2"`+rest)
	checkMade(t, nodes, droppingAttr("id", 0, 0), `p id="1" on="2" href="3"[br[]] math/mi["x"] !"id"`)
	six := tree(withAttrs(element("b"), "a", "1", "b", "2", "c", "3", "d", "4", "e", "5", "f", "6"))
	checkMade(t, six, droppingAttr("f", 0), `b a="1" b="2" c="3" d="4" e="5"[]`)
	checkMade(t, six, droppingAttr("c", 0), `b a="1" b="2" d="4" e="5" f="6"[]`)
	names := append(oddTexts(), "a", "i", "ids", "ID", "1", "x", "p", "abcdefghijklm", strings.Repeat("a", impl.MaxText))
	tooLong := func(name string) bool { return len(name) > impl.MaxText }
	for _, name := range slices.DeleteFunc(names, tooLong) {
		checkEditCode(t, nodes, droppingAttr(name, 0), impl.ErrSame)
		checkEditCode(t, nodes, droppingAttr(name, 0, 0), impl.ErrSame)
		checkEditCode(t, nodes, droppingAttr(name, 1), impl.ErrSame)
		checkEditCode(t, nodes, droppingAttr(name, 2), impl.ErrKind)
		checkEditCode(t, nodes, droppingAttr(name, 1, 0), impl.ErrKind)
		checkEditCode(t, nodes, droppingAttr(name, 3), impl.ErrPlace)
		checkEditCode(t, nodes, droppingAttr(name), impl.ErrPlace)
	}
	checkEditCode(t, nodes, droppingAttr("id", 2), impl.ErrKind)
	checkEditCode(t, nodes, droppingAttr("id", 1, 0), impl.ErrKind)
	checkEditCode(t, nodes, droppingAttr(strings.Repeat("a", impl.MaxText+1), 0), impl.ErrLong)
}

func TestWordsThatAreSet(t *testing.T) {
	long := strings.Repeat("w", impl.MaxWords)
	rest := ` style["f"] ` + partSvg + ` i[]`
	for text, told := range map[string]string{"x": `"x"`, "d": `"d"`, long: `"` + long + `"`, "<b>&--": `"<b>&--"`, "\x00\xff": `"\x00\xff"`, "a--b": `"a--b"`, " ": `" "`} {
		checkMade(t, edited(), settingWords(text, 2), partP+` br[] `+told+` !"e"`+rest)
		checkMade(t, edited(), settingWords(text, 3), partP+` br[] "d" !`+told+rest)
		checkMade(t, edited(), settingWords(text, 0, 0), `p id="x"[`+told+` b["c"]] br[] "d" !"e"`+rest)
		checkMade(t, edited(), settingWords(text, 0, 1, 0), `p id="x"["a" b[`+told+`]] br[] "d" !"e"`+rest)
		checkMade(t, edited(), settingWords(text, 4, 0), partP+` br[] "d" !"e" style[`+told+`] `+partSvg+` i[]`)
		checkMade(t, edited(), settingWords(text, 5, 0, 0), partP+` br[] "d" !"e" style["f"] svg/svg[svg/br[`+told+`] svg/style[]] i[]`)
	}
	checkMade(t, edited(), settingWords("", 3), partP+` br[] "d" !""`+rest)
	checkEditCode(t, edited(), settingWords("", 2), impl.ErrFull)
	checkEditCode(t, edited(), settingWords("", 4, 0), impl.ErrFull)
	for _, n := range []int{impl.MaxWords + 1, impl.MaxList + 1, impl.MaxText} {
		for _, path := range [][]int{{2}, {3}, {0, 0}, {4, 0}} {
			checkEditCode(t, edited(), settingWords(strings.Repeat("w", n), path...), impl.ErrFull)
		}
	}
	for _, text := range []string{"", "x", long, long + "w", strings.Repeat("w", impl.MaxText)} {
		for _, path := range [][]int{{0}, {0, 1}, {1}, {4}, {5}, {5, 0}, {6}} {
			checkEditCode(t, edited(), settingWords(text, path...), impl.ErrKind)
		}
	}
	for _, path := range [][]int{{0}, {2}, {9}, nil} {
		checkEditCode(t, edited(), settingWords(strings.Repeat("w", impl.MaxText+1), path...), impl.ErrLong)
	}
}

func TestKidsThatAreSet(t *testing.T) {
	kids := tree(withAttrs(element("i", words("y")), "id", "z"), comment("-"), words("h"))
	told := `[i id="z"["y"] !"-" "h"]`
	checkMade(t, edited(), settingKids(kids, 0), `p id="x"`+told+` br[] "d" !"e" style["f"] `+partSvg+` i[]`)
	checkMade(t, edited(), settingKids(kids, 0, 1), `p id="x"["a" b`+told+`] br[] "d" !"e" style["f"] `+partSvg+` i[]`)
	checkMade(t, edited(), settingKids(kids, 5), partP+` br[] "d" !"e" style["f"] svg/svg`+told+` i[]`)
	checkMade(t, edited(), settingKids(kids, 5, 0), partP+` br[] "d" !"e" style["f"] svg/svg[svg/br`+told+` svg/style[]] i[]`)
	checkMade(t, edited(), settingKids(kids, 5, 1), partP+` br[] "d" !"e" style["f"] svg/svg[svg/br["g"] svg/style`+told+`] i[]`)
	checkMade(t, edited(), settingKids(kids, 6), partP+` br[] "d" !"e" style["f"] `+partSvg+` i`+told)
	checkMade(t, edited(), settingKids(tree(words("<"), words("</style>")), 4), partP+` br[] "d" !"e" style["<" "</style>"] `+partSvg+` i[]`)
	for _, none := range [][]impl.Node{nil, {}} {
		checkMade(t, edited(), settingKids(none, 0), `p id="x"[] br[] "d" !"e" style["f"] `+partSvg+` i[]`)
		checkMade(t, edited(), settingKids(none, 0, 1), `p id="x"["a" b[]] br[] "d" !"e" style["f"] `+partSvg+` i[]`)
		checkMade(t, edited(), settingKids(none, 4), partP+` br[] "d" !"e" style[] `+partSvg+` i[]`)
		checkMade(t, edited(), settingKids(none, 1), brief(edited()))
		checkMade(t, edited(), settingKids(none, 6), brief(edited()))
	}
	for _, full := range [][]impl.Node{kids, tree(words("x")), tree(comment("")), tree(element("br"))} {
		checkEditCode(t, edited(), settingKids(full, 1), impl.ErrFull)
	}
	for _, full := range [][]impl.Node{kids, tree(comment("")), tree(element("br")), tree(words("x"), element("style")), tree(comment("x"), words("x"))} {
		checkEditCode(t, edited(), settingKids(full, 4), impl.ErrFull)
	}
	for _, list := range [][]impl.Node{nil, kids, tree(words("x")), tree(comment(""))} {
		for _, path := range [][]int{{2}, {3}, {0, 0}, {0, 1, 0}, {4, 0}, {5, 0, 0}} {
			checkEditCode(t, edited(), settingKids(list, path...), impl.ErrKind)
		}
	}
}
