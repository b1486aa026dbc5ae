package tests

import (
	"math"
	"slices"
	"strings"
	"testing"

	"loop.example/g00788/impl"
)

func TestTextsBuiltAgainAtTheirLimits(t *testing.T) {
	checkAgain(t, strings.Repeat("</b>", impl.MaxList/4), impl.OK)
	checkAgain(t, strings.Repeat("</b>", impl.MaxList/4)+"x", impl.ErrSize)
	checkAgain(t, "<b"+strings.Repeat(" ", impl.MaxList-3)+">", impl.OK)
	checkAgain(t, "<b"+strings.Repeat(" ", impl.MaxList-2)+">", impl.ErrSize)
	for _, n := range []int{impl.MaxList + 1, impl.MaxText - 1, impl.MaxText, impl.MaxText + 1, impl.MaxText + 2, 1 << 20} {
		due := impl.ErrSize
		if n > impl.MaxText {
			due = impl.ErrLong
		}
		for _, piece := range []string{"x", "<", "</b>", "<b>", "<br>", "\xff", "\x00", " "} {
			checkAgain(t, strings.Repeat(piece, n)[:n], due)
		}
	}
	checkAgain(t, bold(10), impl.OK)
	checkAgain(t, bold(11), impl.ErrDeep)
	checkAgain(t, bold(10)+"x", impl.ErrDeep)
	checkAgain(t, breaks(60), impl.OK)
	checkAgain(t, breaks(61), impl.ErrMany)
	checkAgain(t, breaks(60)+"<!>", impl.ErrMany)
	checkAgain(t, long(120), impl.OK)
	checkAgain(t, long(121), impl.ErrSize)
	checkAgain(t, "<!--"+long(120), impl.OK)
	checkAgain(t, "<!--"+long(121), impl.ErrSize)
	checkAgain(t, long(60)+"</b>"+long(61), impl.ErrSize)
	checkAgain(t, "<xmp>"+long(121), impl.ErrSize)
	for _, s := range nodeTexts() {
		checkAgain(t, bold(9)+s, impl.OK)
		checkAgain(t, breaks(59)+s, impl.OK)
	}
}

// TestTextsWhoseTreesHaveLongerTexts are short enough themselves.
func TestTextsWhoseTreesHaveLongerTexts(t *testing.T) {
	marks := strings.Repeat(strings.Repeat("&", 120)+"<br>", 6) + strings.Repeat("&", 94)
	values := strings.Repeat("<b a="+strings.Repeat("&", 40)+">", 10)
	end := strings.Repeat("</b>", 10)
	for _, v := range []struct {
		s, more string
		n       int
	}{
		{marks, "xx", impl.MaxList},
		{marks, "xxx", impl.MaxList + 1},
		{marks, "x", impl.MaxList - 1},
		{marks + "x", "&", impl.MaxList + 4},
		{strings.Repeat("<svg a='"+strings.Repeat("\"", 40)+"'/>", 15), strings.Repeat("<p>", 19) + "<br>" + long(119), impl.MaxList},
		{strings.Repeat("<svg a='"+strings.Repeat("\"", 40)+"'/>", 15), strings.Repeat("<p>", 19) + "<br>" + long(120), impl.MaxList + 1},
	} {
		meant, code := impl.Build(v.s + v.more)
		if text, _ := impl.Serialize(meant); len(text) != v.n || code != impl.OK || len(v.s+v.more) >= impl.MaxList {
			t.Errorf("the tree of %.80q of %d bytes has a text of %d, code %d, want %d", v.s+v.more, len(v.s+v.more), len(text), code, v.n)
		}
		due := impl.OK
		if v.n > impl.MaxList {
			due = impl.ErrSize
		}
		checkAgain(t, v.s+v.more, due)
	}
	checkAgain(t, values+end, impl.OK)
	checkAgain(t, strings.Repeat(values+end, 2), impl.ErrSize)
	checkAgain(t, strings.Repeat(values+end, 7), impl.ErrMany)
}

// TestFirstCodesOfTextsBuiltAgain has texts for which two codes would fit.
func TestFirstCodesOfTextsBuiltAgain(t *testing.T) {
	grows := strings.Repeat(strings.Repeat("&", 120)+"<br>", 7)
	checkAgain(t, grows, impl.ErrSize)
	checkAgain(t, grows+bold(11), impl.ErrDeep)
	checkAgain(t, grows+breaks(61), impl.ErrMany)
	checkAgain(t, bold(11)+breaks(61), impl.ErrDeep)
	checkAgain(t, breaks(61)+bold(11), impl.ErrMany)
	checkAgain(t, bold(11)+strings.Repeat(" ", impl.MaxList), impl.ErrSize)
	checkAgain(t, breaks(61)+strings.Repeat("</b>", impl.MaxList), impl.ErrSize)
	checkAgain(t, bold(11)+strings.Repeat(" ", impl.MaxText), impl.ErrLong)
	checkAgain(t, long(121)+bold(11), impl.ErrSize)
}

func checkWatchCodes(t *testing.T, what any, nodes []impl.Node, want int) {
	t.Helper()
	for _, k := range []int{0, 1, 2, impl.MaxDepth, impl.MaxDepth + 1, -1, math.MinInt, math.MaxInt} {
		if yes, code := impl.SafeTimes(nodes, k); yes || code != want {
			t.Errorf("SafeTimes of wrong tree %v, %d = %v, %d, want code %d", what, k, yes, code, want)
		}
	}
	if lines, code := impl.Flatten(nodes); len(lines) != 0 || code != want {
		t.Errorf("Flatten of wrong tree %v = %.80q, %d, want code %d", what, lines, code, want)
	}
	checkLeftCode(t, what, nodes, config("unwrap:b"), want)
	checkPartCode(t, nodes, nil, want)
	checkPartCode(t, nil, nodes, want)
	checkPartCode(t, nodes, nodes, want)
	checkPartCode(t, nodes, nested(10), want)
	checkPartCode(t, repeated(words("x"), 60), nodes, want)
}

func checkPartCode(t *testing.T, a, b []impl.Node, want int) {
	t.Helper()
	if yes, code := impl.PartOf(a, b); yes || code != want {
		t.Errorf("PartOf of %d nodes and of %d = %v, %d, want code %d", len(a), len(b), yes, code, want)
	}
}

func checkLeftCode(t *testing.T, what any, nodes []impl.Node, c impl.Config, want int) {
	t.Helper()
	twice, c1 := impl.SanitizedTwice(nodes, c)
	names, c2 := impl.Survivors(nodes, c)
	if twice || len(names) != 0 || c1 != want || c2 != want {
		t.Errorf("%v by %.200s: %v %q, codes %d %d, want %d", what, showConfig(c), twice, names, c1, c2, want)
	}
}

func TestCodesOfWatchedTrees(t *testing.T) {
	for i, x := range append(wrongTrees(), hugeTrees()...) {
		checkWatchCodes(t, i, x, impl.ErrBad)
		for _, more := range []impl.Node{words("x"), element("script")} {
			if len(x) < impl.MaxList {
				checkWatchCodes(t, i, append(tree(more), x...), impl.ErrBad)
			}
		}
	}
	for i, x := range longTrees() {
		checkWatchCodes(t, i, x, impl.ErrLong)
	}
	checkWatchCodes(t, "MaxList", repeated(words("x"), impl.MaxList), impl.ErrBad)
	checkWatchCodes(t, "MaxList and one", repeated(words("x"), impl.MaxList+1), impl.ErrLong)
}

// TestFirstCodesOfParts has each sort of tree beside each.
func TestFirstCodesOfParts(t *testing.T) {
	sorts := map[int][][]impl.Node{
		impl.OK:      {nil, tree(words("x")), nested(10), repeated(element("br"), 60)},
		impl.ErrBad:  {tree(impl.Node{}), tree(words("")), nested(11), repeated(words("x"), 61), repeated(words("x"), impl.MaxList), endless(), tree(words("x"), element("br", words("x"))), tree(element("p", comment(long(121))))},
		impl.ErrLong: {repeated(words("x"), impl.MaxList+1), make([]impl.Node, impl.MaxList+1), repeated(element("b"), impl.MaxText+1)},
	}
	for c1, ones := range sorts {
		for c2, others := range sorts {
			for _, a := range ones {
				for _, b := range others {
					if due := max(c1, c2); due != impl.OK {
						checkPartCode(t, a, b, due)
						continue
					}
					checkPart(t, a, b, isPartBy(flattenedBy(a), flattenedBy(b)))
				}
			}
		}
	}
}

// TestTimesOfAnySize has numbers that are none of times in more than one way.
func TestTimesOfAnySize(t *testing.T) {
	for _, nodes := range [][]impl.Node{nil, tree(words("x")), tree(element("script")), tree(comment("--><script>")), growing(), sized(5000), nested(9, comment("--><b>"))} {
		for _, k := range []int{impl.MaxDepth + 1, impl.MaxDepth + 2, 60, 256, 1<<8 + 1, 1 << 16, 1<<16 + 1, 1 << 32, 1<<32 + 1, 1<<63 - 9, math.MaxInt, -1, -2, -10, -255, -1 << 32, 1 - 1<<32, math.MinInt, math.MinInt + 1} {
			checkSafeTimes(t, nodes, k, false, impl.ErrRange)
		}
	}
}

// TestFirstCodesOfWhatIsLeft has what is no tree beside right configurations and ones with a code, and right trees beside the latter.
func TestFirstCodesOfWhatIsLeft(t *testing.T) {
	configs := append(codedConfigs(), impl.Config{}, impl.DefaultConfig(), config("allow:"))
	for i, x := range append(wrongTrees(), hugeTrees()...) {
		for k, c := range configs {
			if k >= len(configs)-3 || (i+k)%5 == 0 {
				checkLeftCode(t, i, x, c, impl.ErrBad)
			}
		}
	}
	for _, c := range configs {
		for i, x := range longTrees() {
			checkLeftCode(t, i, x, c, impl.ErrLong)
		}
		checkLeftCode(t, "MaxList", repeated(words("x"), impl.MaxList), c, impl.ErrBad)
	}
	right := [][]impl.Node{nil, {}, tree(words("x")), tree(element("script")), tree(element("p", comment("--"))), nested(10), repeated(element("br"), 60)}
	for i, c := range codedConfigs() {
		for _, x := range right {
			checkLeftCode(t, brief(x), x, c, []int{impl.ErrBad, impl.ErrConfig}[i%2])
		}
	}
	for _, c := range badConfigs() {
		checkLeftCode(t, "a tree", tree(element("p")), c, impl.ErrBad)
	}
	for told, cured := range contradictions() {
		checkLeftCode(t, "a tree", tree(element("p")), config(told), impl.ErrConfig)
		for _, other := range cured {
			checkLeftOnce(t, tree(element("p", element("u"))), config(other))
		}
	}
}

// TestWatchedAnswersAreNewMemory writes into answers, and behind their ends, and asks again.
func TestWatchedAnswersAreNewMemory(t *testing.T) {
	configs := slices.Concat(wideConfigs(), rightConfigs())
	for i, nodes := range slices.Concat(rightTrees(), grownTrees(100), dressedTrees(100)) {
		nodes, c := withRoom(nodes), configWithRoom(configs[i%len(configs)])
		before := show(whole(nodes)) + showConfig(wholeConfig(c))
		lines, _ := impl.Flatten(nodes)
		names, _ := impl.Survivors(nodes, c)
		spoilNames(lines)
		spoilNames(names)
		impl.SafeTimes(nodes, 2)
		impl.SanitizedTwice(nodes, c)
		impl.PartOf(nodes, nodes[:len(nodes)/2])
		impl.PartOf(nodes[:len(nodes)/2], nodes)
		if show(whole(nodes))+showConfig(wholeConfig(c)) != before {
			t.Errorf("an answer shares memory with tree %d", i)
		}
		checkFlat(t, nodes, flattenedBy(nodes)...)
		checkSurvivors(t, nodes, c, survivorsBy(nodes, c)...)
	}
}
