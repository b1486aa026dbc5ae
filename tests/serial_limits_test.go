package tests

import (
	"math"
	"strings"
	"testing"

	"loop.example/g00788/impl"
)

// checkNoMeaning takes right trees whose texts mean none.
func checkNoMeaning(t *testing.T, nodes []impl.Node, want int) {
	t.Helper()
	checkMeaning(t, nodes, meaning{writtenBy(nodes), nil, false, want})
}

func TestTextsOfTreesThatAreTooLong(t *testing.T) {
	for _, n := range []int{2220, impl.MaxList - 1, impl.MaxList} {
		if text, code := impl.Serialize(sized(n)); len(text) != n || code != impl.OK {
			t.Errorf("Serialize has %d bytes, %d, want %d", len(text), code, n)
		}
		checkMeaning(t, sized(n), meaning{writtenBy(sized(n)), sized(n), true, impl.OK})
	}
	for _, n := range []int{impl.MaxList + 1, impl.MaxText - 1, impl.MaxText, impl.MaxText + 1, 77820} {
		if text, code := impl.Serialize(sized(n)); len(text) != n || code != impl.OK {
			t.Errorf("Serialize has %d bytes, %d, want %d", len(text), code, n)
		}
		checkNoMeaning(t, sized(n), impl.ErrSize)
	}
	var marks []impl.Node
	for range 8 {
		marks = append(marks, words(strings.Repeat("&", 100)), element("br"))
	}
	last := append(marks, words(long(64)))
	checkMeaning(t, last, meaning{writtenBy(last), last, true, impl.OK})
	checkNoMeaning(t, append(marks, words(long(65))), impl.ErrSize)
	checkNoMeaning(t, append(marks, words(long(63)), words("x"), comment("")), impl.ErrSize)
}

func TestTextsOfTreesThatMeanNone(t *testing.T) {
	breaks := func(n int) []impl.Node { return repeated(element("br"), n) }
	for _, x := range [][]impl.Node{
		nested(9, comment("--><b>")),
		nested(9, comment("--><b><b>")),
		nested(8, element("b", comment("--><p>x"))),
		nested(8, element("style", words("</style><b><b>x"))),
		tree(comment("-->" + bold(11))),
		tree(element("xmp", words("</xmp>"+bold(10)+"x"))),
	} {
		checkNoMeaning(t, x, impl.ErrDeep)
	}
	for _, x := range [][]impl.Node{
		append(breaks(59), comment("-->")),
		append(breaks(58), comment("--><br>")),
		append(breaks(50), repeated(comment("-->"), 6)...),
		append(breaks(57), element("xmp", words("</xmp><p></p>x<b>")), words("y")),
		append(breaks(40), comment("-->"+strings.Repeat("<p>", 30))),
		append(breaks(58), element("style", words("a</style>b"))),
	} {
		checkNoMeaning(t, x, impl.ErrMany)
	}
	for _, x := range [][]impl.Node{
		tree(words(long(120)), words("x")),
		tree(words(long(60)), words(long(61))),
		tree(element("style", words(long(120)), words("x"))),
		tree(element("style", words(strings.Repeat("&", 60)), words(long(61)))),
		tree(inSpace(1, "style", words(strings.Repeat("&", 25)))),
		tree(inSpace(2, "xmp", element("b", words(long(114))))),
		tree(inSpace(1, "svg", element("style", words(long(120)), words("x")))),
		tree(comment("-->"), words(long(118))),
		tree(comment("--><!"), words(long(120))),
		tree(element("p", words("x"), words(long(119)), words("x"))),
	} {
		checkNoMeaning(t, x, impl.ErrSize)
	}
}

// TestTextsOfTreesAtTheirLimits have one less than the ones above.
func TestTextsOfTreesAtTheirLimits(t *testing.T) {
	breaks := func(n int) []impl.Node { return repeated(element("br"), n) }
	for _, x := range [][]impl.Node{
		nested(8, comment("--><b>")),
		nested(9, comment("--><br>")),
		append(breaks(58), comment("-->")),
		append(breaks(57), comment("--><br>")),
		append(breaks(57), element("style", words("a</style>b"))),
		tree(words(long(119)), words("x")),
		tree(element("style", words(long(119)), words("x"))),
		tree(inSpace(1, "style", words(strings.Repeat("&", 24)))),
		tree(inSpace(2, "xmp", element("b", words(long(113))))),
		tree(comment("-->"), words(long(117))),
		repeated(words("xy"), 60),
	} {
		want := meaningBy(x)
		if want.code != impl.OK || want.stable {
			t.Errorf("the text of %.200s means %.200s, %d", brief(x), brief(want.meant), want.code)
		}
		checkMeaning(t, x, want)
	}
}

func TestFirstCodesOfTextsOfTrees(t *testing.T) {
	breaks := func(n int) []impl.Node { return repeated(element("br"), n) }
	deep := nested(9, comment("--><b>"))
	checkNoMeaning(t, append(breaks(49), deep...), impl.ErrDeep)
	checkNoMeaning(t, append(breaks(50), deep...), impl.ErrMany)
	checkNoMeaning(t, append(append(breaks(48), comment("--><b></b>")), deep...), impl.ErrMany)
	checkNoMeaning(t, append(append(tree(comment("-->")), deep...), breaks(49)...), impl.ErrDeep)
	checkNoMeaning(t, append(tree(words(long(120)), words("x")), deep...), impl.ErrSize)
	checkNoMeaning(t, append(breaks(58), comment("-->"), words(long(120))), impl.ErrSize)
	checkNoMeaning(t, append(breaks(57), comment("--><br>"), comment("-->"), words(long(118))), impl.ErrMany)
	checkNoMeaning(t, append(deep, sized(5000)[:50]...), impl.ErrSize)
	checkNoMeaning(t, append(tree(comment("-->")), sized(6000)[:59]...), impl.ErrSize)
}

// TestTimes has numbers of any sort, of trees that are stable, that are not, and whose texts mean none.
func TestTimes(t *testing.T) {
	merged := tree(words("a"), words("b"))
	fault := tree(words(long(120)), words("x"))
	for k := -3; k <= impl.MaxDepth+3; k++ {
		switch {
		case k < 0 || k > 10:
			for _, x := range [][]impl.Node{nil, merged, fault, sized(5000), growing()} {
				checkTimes(t, x, k, nil, impl.ErrRange)
			}
		case k == 0:
			for _, x := range [][]impl.Node{nil, merged, fault, sized(5000), growing()} {
				checkTimes(t, x, k, x, impl.OK)
			}
		default:
			checkTimes(t, nil, k, nil, impl.OK)
			checkTimes(t, merged, k, tree(words("ab")), impl.OK)
			checkTimes(t, nested(10), k, nested(10), impl.OK)
			checkTimes(t, fault, k, nil, impl.ErrSize)
			checkTimes(t, sized(5000), k, nil, impl.ErrSize)
			checkTimes(t, nested(9, comment("--><b>")), k, nil, impl.ErrDeep)
		}
	}
	for _, k := range []int{math.MinInt, math.MaxInt, 1 << 32, 1<<32 + 1, -1 << 32, 1 << 8, 1<<8 + 1, 1 << 16, 1<<63 - 9} {
		for _, x := range [][]impl.Node{nil, merged, fault, sized(5000), growing()} {
			checkTimes(t, x, k, nil, impl.ErrRange)
		}
	}
}

// TestTextsThatGrow has a tree that is there once, but not twice.
func TestTextsThatGrow(t *testing.T) {
	x := growing()
	meant, code := impl.Reparse(x)
	text, _ := impl.Serialize(meant)
	if code != impl.OK || len(text) <= impl.MaxList || len(writtenBy(x)) > impl.MaxList {
		t.Fatalf("Reparse has code %d, and a text of %d bytes", code, len(text))
	}
	checkMeaning(t, x, meaning{writtenBy(x), tree(inSpace(1, "svg", repeated(inSpace(1, "style", words(strings.Repeat("&", 120))), 25)...)), false, impl.OK})
	checkNoMeaning(t, meant, impl.ErrSize)
	for k := 2; k <= impl.MaxDepth; k++ {
		checkTimes(t, x, k, nil, impl.ErrSize)
	}
}

func TestTextsOfWhatIsNoTree(t *testing.T) {
	check := func(i int, x []impl.Node, want int) {
		t.Helper()
		text, c1 := impl.Serialize(x)
		meant, c2 := impl.Reparse(x)
		stable, c3 := impl.Stable(x)
		if text != "" || len(meant) != 0 || stable {
			t.Errorf("wrong tree %d: %.80q %.80s %v beside a code", i, text, show(meant), stable)
		}
		if c1 != want || c2 != want || c3 != want {
			t.Errorf("wrong tree %d: codes %d %d %d, want %d", i, c1, c2, c3, want)
		}
		for _, k := range []int{0, 1, 2, impl.MaxDepth, impl.MaxDepth + 1, -1, math.MinInt, math.MaxInt} {
			if meant, code := impl.ReparseTimes(x, k); len(meant) != 0 || code != want {
				t.Errorf("ReparseTimes of wrong tree %d, %d = %.80s, %d, want code %d", i, k, show(meant), code, want)
			}
		}
	}
	for i, x := range append(wrongTrees(), hugeTrees()...) {
		check(i, x, impl.ErrBad)
	}
	for i, x := range longTrees() {
		check(i, x, impl.ErrLong)
	}
}

// TestMeaningsAreNewMemory writes into answers, looks at the arguments, and asks again.
func TestMeaningsAreNewMemory(t *testing.T) {
	for i, x := range append(rightTrees(), grownTrees(100)...) {
		x = withRoom(x)
		before := show(whole(x))
		var list []impl.Node
		var shownAhead []string
		ask := func() [][]impl.Node {
			once, _ := impl.Reparse(x)
			none, _ := impl.ReparseTimes(x, 0)
			twice, _ := impl.ReparseTimes(x, 2)
			return [][]impl.Node{once, none, twice}
		}
		for _, meant := range ask() {
			list = append(list, element("x", meant...))
			shownAhead = append(shownAhead, show(meant))
		}
		noListsShared(t, tree(element("x", list...), element("x", x...)))
		spoil(list)
		for k, meant := range ask() {
			if show(meant) != shownAhead[k] {
				t.Errorf("answer %d of tree %d changed: %.200s", k, i, show(meant))
			}
		}
		if show(whole(x)) != before {
			t.Errorf("an answer shares memory with tree %d", i)
		}
	}
}
