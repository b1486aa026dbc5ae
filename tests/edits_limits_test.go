package tests

import (
	"slices"
	"strings"
	"testing"

	"loop.example/g00788/impl"
)

// checkInserted is for trees that are too large to be written by hand.
func checkInserted(t *testing.T, nodes []impl.Node, x impl.Node, path []int, want []impl.Node) {
	t.Helper()
	checkMade(t, nodes, inserting(x, path...), brief(want))
}

// zeros is the path to the first node at a depth.
func zeros(n int) []int { return make([]int, n) }

func TestEditsOfAsManyNodesAsThereMayBe(t *testing.T) {
	x := words("x")
	full := repeated(x, impl.MaxNodes)
	almost := repeated(x, impl.MaxNodes-1)
	many := element("p", repeated(x, 29)...)
	checkInserted(t, almost, x, []int{0}, full)
	checkInserted(t, almost, x, []int{59}, full)
	checkInserted(t, repeated(x, 30), many, []int{30}, append(repeated(x, 30), many))
	checkInserted(t, tree(element("p", repeated(x, 58)...)), x, []int{0, 58}, tree(element("p", repeated(x, 59)...)))
	checkInserted(t, nil, element("p", repeated(x, 59)...), []int{0}, tree(element("p", repeated(x, 59)...)))
	checkMade(t, append(repeated(x, 29), element("b")), settingKids(repeated(x, 30), 29), brief(append(repeated(x, 29), element("b", repeated(x, 30)...))))
	checkMade(t, append(repeated(x, 29), element("b", repeated(x, 30)...)), settingKids(repeated(comment(""), 30), 29), brief(append(repeated(x, 29), element("b", repeated(comment(""), 30)...))))
	for _, e := range []edit{inserting(x, 0), inserting(x, 60), inserting(comment(""), 30), inserting(element("br"), 1), inserting(many, 2)} {
		checkEditCode(t, full, e, impl.ErrFull)
	}
	checkEditCode(t, repeated(x, 31), inserting(many, 31), impl.ErrFull)
	checkEditCode(t, tree(x), inserting(element("p", repeated(x, 59)...), 0), impl.ErrFull)
	checkEditCode(t, tree(x), inserting(element("p", repeated(x, 60)...), 0), impl.ErrBad)
	checkEditCode(t, nil, inserting(element("p", repeated(x, 60)...), 0), impl.ErrBad)
	checkEditCode(t, append(repeated(x, 29), element("b")), settingKids(repeated(x, 31), 29), impl.ErrFull)
	checkEditCode(t, append(repeated(x, 29), element("b", x)), settingKids(repeated(x, 60), 29), impl.ErrFull)
	checkEditCode(t, tree(element("b", x)), settingKids(repeated(x, 61), 0), impl.ErrBad)
	checkEditCode(t, tree(element("b", x)), settingKids(repeated(x, impl.MaxList), 0), impl.ErrBad)
	checkEditCode(t, tree(element("b", x)), settingKids(repeated(x, impl.MaxList+1), 0), impl.ErrLong)
	checkMade(t, full, removing(59), brief(almost))
	checkMade(t, full, settingWords("y", 59), brief(append(almost, words("y"))))
	checkMade(t, repeated(element("br"), 60), settingAttr("id", "y", 59), brief(append(repeated(element("br"), 59), withAttrs(element("br"), "id", "y"))))
}

func TestEditsOfAsDeepTreesAsThereMayBe(t *testing.T) {
	x := words("x")
	checkInserted(t, nested(9), x, zeros(10), nested(9, x))
	checkInserted(t, nested(9), element("b"), zeros(10), nested(10))
	checkInserted(t, nested(4), nested(6)[0], zeros(5), nested(10))
	checkInserted(t, nested(4, comment("")), nested(6)[0], append(zeros(4), 1), nested(4, comment(""), nested(6)[0]))
	checkInserted(t, nil, nested(10)[0], []int{0}, nested(10))
	checkMade(t, nested(9), settingKids(tree(x, comment("")), zeros(9)...), brief(nested(9, x, comment(""))))
	checkMade(t, nested(3), settingKids(nested(7), zeros(3)...), brief(nested(10)))
	checkMade(t, nested(10), settingKids(nested(9), 0), brief(nested(10)))
	checkEditCode(t, nested(10), inserting(x, zeros(11)...), impl.ErrFull)
	checkEditCode(t, nested(10), inserting(comment(""), zeros(11)...), impl.ErrFull)
	checkEditCode(t, nested(10), inserting(x, zeros(12)...), impl.ErrPlace)
	checkEditCode(t, nested(10), inserting(x, append(zeros(10), 1)...), impl.ErrPlace)
	checkEditCode(t, nested(4), inserting(nested(7)[0], zeros(5)...), impl.ErrFull)
	checkEditCode(t, nested(1), inserting(nested(10)[0], 0, 0), impl.ErrFull)
	checkEditCode(t, nested(1), inserting(nested(11)[0], 0, 0), impl.ErrBad)
	checkEditCode(t, nested(1), settingKids(nested(10), 0), impl.ErrFull)
	checkEditCode(t, nested(1), settingKids(nested(11), 0), impl.ErrBad)
	checkEditCode(t, nested(10), settingKids(tree(x), zeros(10)...), impl.ErrFull)
	checkMade(t, nested(10), settingKids(nil, zeros(10)...), brief(nested(10)))
	checkMade(t, nested(10), removing(zeros(10)...), brief(nested(9)))
	checkMade(t, nested(9, x), settingWords("y", zeros(10)...), brief(nested(9, words("y"))))
	checkMade(t, nested(10), settingAttr("id", "y", zeros(10)...), brief(nested(9, withAttrs(element("b"), "id", "y"))))
	checkMade(t, nested(9, withAttrs(element("b"), "id", "y")), droppingAttr("id", zeros(10)...), brief(nested(10)))
	checkEditCode(t, nested(10), droppingAttr("id", zeros(10)...), impl.ErrSame)
}

// TestCodesOfEditsOfNoTree has all calls at paths of all sorts, beside what else may be wrong.
func TestCodesOfEditsOfNoTree(t *testing.T) {
	wrong := tree(words(""))
	var calls []edit
	for _, path := range [][]int{{0}, {0, 0}, {1}, {9}, nil, {-1}} {
		calls = append(calls, editsAt(path...)...)
		calls = append(calls, inserting(wrong[0], path...), inserting(nested(11)[0], path...), settingAttr("ID", "", path...), settingAttr("", "", path...),
			droppingAttr("", path...), droppingAttr("\xff", path...), settingWords("", path...), settingWords(strings.Repeat("w", impl.MaxText), path...), settingKids(wrong, path...), settingKids(nil, path...))
	}
	check := func(i int, nodes []impl.Node, e edit, due int) {
		t.Helper()
		if got, code := e.of(nodes); len(got) != 0 || code != due {
			t.Errorf("%.200s of wrong tree %d has code %d, want %d", e.shown(), i, code, due)
		}
	}
	for i, nodes := range append(wrongTrees(), hugeTrees()...) {
		for _, e := range calls {
			check(i, nodes, e, impl.ErrBad)
		}
	}
	for i, nodes := range longTrees() {
		for _, e := range calls {
			check(i, nodes, e, impl.ErrLong)
		}
	}
	check(-1, repeated(words("x"), impl.MaxList), removing(0), impl.ErrBad)
	for _, list := range hugeTrees() {
		check(-1, edited(), inserting(list[0], 0), map[bool]int{true: impl.OK, false: impl.ErrBad}[isTree(list[:1])])
		check(-1, edited(), settingKids(list, 9), impl.ErrBad)
		check(-1, edited(), inserting(element("p", list...), 9), impl.ErrBad)
	}
}

// TestWrongNodesAreNotLaidIntoTrees has them at places that are there and that are not.
func TestWrongNodesAreNotLaidIntoTrees(t *testing.T) {
	for _, x := range wrongNodes() {
		for _, path := range [][]int{{0}, {7}, {8}, {0, 0}, {2, 0}, {1, 0}, {4, 0}, nil, {-1}} {
			checkEditCode(t, edited(), inserting(x, path...), impl.ErrBad)
			checkEditCode(t, edited(), settingKids(tree(x), path...), impl.ErrBad)
			checkEditCode(t, edited(), settingKids(tree(words("a"), x), path...), impl.ErrBad)
			checkEditCode(t, edited(), inserting(element("p", words("a"), x), path...), impl.ErrBad)
		}
		checkEditCode(t, nil, inserting(x, 0), impl.ErrBad)
	}
	for _, nodes := range wrongTrees() {
		checkEditCode(t, edited(), settingKids(nodes, 0), impl.ErrBad)
		checkEditCode(t, edited(), settingKids(nodes, 2), impl.ErrBad)
		checkEditCode(t, edited(), settingKids(nodes, 8), impl.ErrBad)
		checkEditCode(t, edited(), inserting(element("p", nodes...), 0), impl.ErrBad)
	}
}

// firstCode is the one of an edit in which all of these would fit.
func firstCode(codes ...int) int {
	for _, code := range []int{impl.ErrLong, impl.ErrBad, impl.ErrPlace, impl.ErrKind, impl.ErrFull, impl.ErrSame} {
		if slices.Contains(codes, code) {
			return code
		}
	}
	return impl.OK
}

// A choice has what may stand in one place of a call, by the code that comes of it if all else is right.
type choice struct {
	given map[int]edit
	paths map[int][]int
}

func choices() []choice {
	elements := map[int][]int{impl.OK: {0}, impl.ErrKind: {2}}
	return []choice{
		{map[int]edit{impl.OK: inserting(words("x")), impl.ErrBad: inserting(words("")), impl.ErrFull: inserting(element("p", repeated(words("x"), 59)...))}, map[int][]int{impl.OK: {0}, impl.ErrFull: {1, 0}}},
		{map[int]edit{impl.OK: removing()}, map[int][]int{impl.OK: {0}}},
		{map[int]edit{impl.OK: settingAttr("a", "x"), impl.ErrBad: settingAttr("A", ""), impl.ErrFull: settingAttr("g", "")}, elements},
		{map[int]edit{impl.OK: droppingAttr("a"), impl.ErrLong: droppingAttr(strings.Repeat("a", impl.MaxText+1)), impl.ErrSame: droppingAttr("g")}, elements},
		{map[int]edit{impl.OK: settingWords("x"), impl.ErrLong: settingWords(strings.Repeat("w", impl.MaxText+1)), impl.ErrFull: settingWords(strings.Repeat("w", impl.MaxWords+1))}, map[int][]int{impl.OK: {2}, impl.ErrKind: {0}}},
		{map[int]edit{impl.OK: settingKids(nil), impl.ErrLong: settingKids(repeated(words("x"), impl.MaxList+1)), impl.ErrBad: settingKids(tree(words(""))), impl.ErrFull: settingKids(nested(10))}, elements},
	}
}

// TestFirstCodesOfEdits has each tree beside each path and all else that a call is given.
func TestFirstCodesOfEdits(t *testing.T) {
	right := tree(withAttrs(element("p", words("a")), "a", "", "b", "", "c", "", "d", "", "e", "", "f", ""), element("br"), words("x"))
	trees := map[int][]impl.Node{impl.OK: right, impl.ErrBad: append(slices.Clip(right), words("")), impl.ErrLong: append(slices.Clip(right), repeated(words("x"), impl.MaxList)...)}
	for _, v := range choices() {
		for c1, nodes := range trees {
			for c2, e := range v.given {
				for _, path := range [][]int{nil, {9}, {0, 9}} {
					e.path = path
					checkEditCode(t, nodes, e, firstCode(c1, c2, impl.ErrPlace))
				}
				e.path = zeros(impl.MaxList + 1)
				checkEditCode(t, nodes, e, impl.ErrLong)
				for c3, path := range v.paths {
					e.path = path
					if due := firstCode(c1, c2, c3); due != impl.OK {
						checkEditCode(t, nodes, e, due)
						continue
					}
					made, _ := editedBy(nodes, e)
					checkMade(t, nodes, e, brief(made))
				}
			}
		}
	}
}
