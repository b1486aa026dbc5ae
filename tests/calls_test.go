package tests

import (
	"fmt"
	"math"
	"math/rand"
	"reflect"
	"slices"
	"strings"
	"sync"
	"testing"

	"loop.example/g00788/impl"
)

// A call is one function with its arguments bound; it answers what the function answers.
type call func() []any

func answers(list ...any) []any { return list }

// manyTexts are right and wrong texts for every function that takes one.
func manyTexts() []string {
	texts := append(allMembers(), oddTexts()...)
	texts = append(texts, codeWords()...)
	texts = append(texts, escapeTexts()...)
	texts = append(texts, tokenTexts()...)
	texts = append(texts, treeTexts()...)
	for _, name := range []string{"script", "onclick", "href", "math", "_a9"} {
		texts = append(texts, nearNames(name)...)
	}
	for _, n := range []int{impl.MaxName, impl.MaxName + 1, impl.MaxText, impl.MaxText + 1} {
		for _, p := range []string{"a", "A", "\x00", "\xff", " ", "\n", "&", "<", ">", "-"} {
			texts = append(texts, strings.Repeat(p, n))
		}
	}
	return append(texts, scheme, strings.ToUpper(scheme), " \t"+scheme, "java\nscript:", "java script:", "on", "on\xff", "é", "\xc3\x28")
}

func manyCalls(texts []string) []call {
	var calls []call
	for _, s := range texts {
		calls = append(calls,
			func() []any { return answers(impl.NameOK(s)) },
			func() []any { return answers(impl.CodeOf(s)) },
			func() []any { return answers(impl.TagOK(s)) },
			func() []any { return answers(impl.LowerOf(s)) },
			func() []any { return answers(impl.IsVoid(s)) },
			func() []any { return answers(impl.IsRaw(s)) },
			func() []any { return answers(impl.BreaksOut(s)) },
			func() []any { return answers(impl.IsBanned(s)) },
			func() []any { return answers(impl.IsHandler(s)) },
			func() []any { return answers(impl.IsLink(s)) },
			func() []any { return answers(impl.BadLink(s)) },
			func() []any { return answers(impl.SpaceOf(s)) },
			func() []any { return answers(impl.EscapeText(s)) },
			func() []any { return answers(impl.EscapeValue(s)) },
			func() []any { return answers(impl.Unescape(s)) },
			func() []any { return answers(impl.HasMarkup(s)) },
			func() []any { return answers(impl.CommentOK(s)) },
			func() []any { return answers(impl.TokensOf(s)) },
			func() []any { return answers(impl.NextToken("<a>"+s, 3, s)) },
			func() []any { return answers(impl.Build(s)) },
			func() []any { return answers(impl.BuildIn(s, "div")) },
			func() []any { return answers(impl.BuildIn(s, "style")) },
			func() []any { return answers(impl.BuildIn(s, "br")) },
			func() []any { return answers(impl.BuildIn("<b>x", s)) },
		)
		for _, raw := range []string{"", "style", "xmp", "x y"} {
			for _, at := range []int{math.MinInt, -1, 0, 1, len(s) / 2, len(s) - 1, len(s), math.MaxInt} {
				calls = append(calls, func() []any { return answers(impl.NextToken(s, at, raw)) })
			}
		}
	}
	for _, code := range []int{math.MinInt, -1, 0, 1, 9, 17, 18, 19, 1 << 40, math.MaxInt} {
		calls = append(calls, func() []any { return answers(impl.CodeWord(code)) })
	}
	return calls
}

// manyTrees have room behind their lists' ends.
func manyTrees() [][]impl.Node {
	var trees [][]impl.Node
	for _, x := range slices.Concat(rightTrees(), grownTrees(100), brokenTrees(100), wrongTrees(), longTrees()) {
		trees = append(trees, withRoom(x))
	}
	return trees
}

func manyPaths() [][]int {
	return append(oddPaths(), []int{0}, []int{1}, []int{0, 0}, []int{0, 1, 0}, []int{2, 0, 0}, make([]int, impl.MaxList+1))
}

func manyTreeCalls(trees [][]impl.Node, paths [][]int) []call {
	var calls []call
	for i, x := range trees {
		calls = append(calls,
			func() []any { return answers(impl.TreeOK(x)) },
			func() []any { return answers(impl.SameTree(x, trees[i/2])) },
			func() []any { return answers(impl.CountOf(x)) },
			func() []any { return answers(impl.DepthOf(x)) },
			func() []any { return answers(impl.TextOf(x)) },
			func() []any { return answers(impl.MergeText(x)) },
			func() []any { return answers(impl.NamesIn(x)) },
			func() []any { return answers(impl.Serialize(x)) },
			func() []any { return answers(impl.Reparse(x)) },
			func() []any { return answers(impl.Stable(x)) },
		)
		for _, k := range []int{math.MinInt, -1, 0, 1, 2, impl.MaxDepth, impl.MaxDepth + 1, math.MaxInt} {
			calls = append(calls, func() []any { return answers(impl.ReparseTimes(x, k)) })
		}
		for _, node := range x[:min(len(x), 2)] {
			calls = append(calls, func() []any { return answers(impl.StartTag(node)) })
		}
		for _, path := range paths {
			calls = append(calls, func() []any { return answers(impl.NodeAt(x, path)) })
		}
	}
	return calls
}

// manyStacks are right and wrong ones, with room behind their ends.
func manyStacks() [][]impl.Open {
	var stacks [][]impl.Open
	for _, names := range []string{"", "p", "li", "b i b", "ul li p", "p svg/svg svg/g", "svg/svg math/math", "li svg/p", "svg/svg p math/li", "style", "br svg/br"} {
		stacks = append(stacks, open(names), append(open(names), wrongOpens()[len(stacks)]))
	}
	for _, n := range []int{impl.MaxList, impl.MaxList + 1} {
		stacks = append(stacks, slices.Repeat(open("svg/g"), n))
	}
	for i, stack := range stacks {
		stacks[i] = append(append(make([]impl.Open, 0, len(stack)+2), stack...), impl.Open{Name: "behind"})[:len(stack)]
	}
	return stacks
}

func manyStackCalls(stacks [][]impl.Open) []call {
	var calls []call
	names := []string{"p", "div", "b", "br", "li", "a", "i", "g", "svg", "math", "style", "", "P", "p\xff", strings.Repeat("p", impl.MaxText+1)}
	for _, stack := range stacks {
		for _, name := range names {
			calls = append(calls,
				func() []any { return answers(impl.Implied(stack, name)) },
				func() []any { return answers(impl.PlaceOf(stack, name)) },
				func() []any { return answers(impl.CloseAt(stack, name)) },
			)
		}
	}
	return calls
}

// manyConfigs are right and wrong ones, with room behind their lists' ends.
func manyConfigs() []impl.Config {
	list := append(rightConfigs(), anyConfigs(40)...)
	for told := range contradictions() {
		list = append(list, config(told))
	}
	for i, c := range badConfigs() {
		if i%20 == 0 {
			list = append(list, c)
		}
	}
	for i, c := range list {
		list[i] = configWithRoom(c)
	}
	return list
}

// configArgs are elements and attributes, right and wrong ones.
func configArgs() ([]impl.Open, []impl.Attr) {
	elements := append(open("p svg/p a math/b script svg/use style abcdefghijkl"), wrongOpens()[:12]...)
	attrs := []impl.Attr{{Name: "id", Value: "x"}, {Name: "href", Value: "JavaScript:x"}, {Name: "src", Value: "\xff"}, {Name: "onclick"}, {Name: "data-x"}, {Name: "title"}}
	return elements, append(attrs, wrongAttrs()[:8]...)
}

func manyConfigCalls(configs []impl.Config) []call {
	elements, attrs := configArgs()
	calls := []call{func() []any { return answers(impl.DefaultConfig()) }}
	for i, c := range configs {
		calls = append(calls,
			func() []any { return answers(impl.CheckConfig(c)) },
			func() []any { return answers(impl.Canonical(c)) },
			func() []any { return answers(impl.SameConfig(c, configs[i/2])) },
			func() []any { return answers(impl.SameConfig(configs[i], c)) },
		)
		for _, r := range slices.Concat(c.Allow, c.Remove, c.Unwrap) {
			calls = append(calls, func() []any { return answers(impl.RuleOK(r)) })
		}
		for _, e := range elements {
			calls = append(calls,
				func() []any { return answers(impl.Unwraps(c, e.Space, e.Name)) },
				func() []any { return answers(impl.AllowsElement(c, e.Space, e.Name)) },
			)
			for _, a := range attrs {
				calls = append(calls, func() []any { return answers(impl.AllowsAttr(c, e.Space, e.Name, a)) })
			}
		}
	}
	return calls
}

// manySanitizeCalls take each tree and each text by some of the configurations, right and wrong ones.
func manySanitizeCalls(trees [][]impl.Node, texts []string, configs []impl.Config) []call {
	var calls []call
	some := func(i int) []impl.Config {
		return []impl.Config{configs[i%len(configs)], configs[(i*7+i/len(configs))%len(configs)], impl.DefaultConfig()}
	}
	for i, x := range trees {
		calls = append(calls,
			func() []any { return answers(impl.Harmless(x)) },
			func() []any { return answers(impl.Clean(x)) },
			func() []any { return answers(impl.FirstHarm(x)) },
		)
		for _, c := range some(i) {
			calls = append(calls,
				func() []any { return answers(impl.Sanitize(x, c)) },
				func() []any { return answers(impl.Permitted(x, c)) },
				func() []any { return answers(impl.Removed(x, c)) },
			)
		}
	}
	for i, s := range texts {
		for _, c := range some(i) {
			calls = append(calls, func() []any { return answers(impl.SanitizeText(s, c)) })
		}
	}
	return calls
}

// manyWatchCalls take each tree by some of the configurations, and beside some of the other trees.
func manyWatchCalls(trees [][]impl.Node, texts []string, configs []impl.Config) []call {
	var calls []call
	for i, x := range trees {
		calls = append(calls, func() []any { return answers(impl.Flatten(x)) })
		for _, k := range []int{math.MinInt, -1, 0, 1, 2, impl.MaxDepth, impl.MaxDepth + 1, math.MaxInt} {
			calls = append(calls, func() []any { return answers(impl.SafeTimes(x, k)) })
		}
		for _, c := range []impl.Config{configs[i%len(configs)], configs[(i*7+i/len(configs))%len(configs)], impl.DefaultConfig()} {
			calls = append(calls,
				func() []any { return answers(impl.SanitizedTwice(x, c)) },
				func() []any { return answers(impl.Survivors(x, c)) },
			)
		}
		for _, other := range [][]impl.Node{x, trees[i/2], trees[len(trees)-1-i], x[:len(x)/2]} {
			calls = append(calls,
				func() []any { return answers(impl.PartOf(x, other)) },
				func() []any { return answers(impl.PartOf(other, x)) },
			)
		}
	}
	for _, s := range texts {
		calls = append(calls, func() []any { return answers(impl.BuiltAgain(s)) })
	}
	return calls
}

// manyEdits are right and wrong ones, with room behind their lists' ends.
func manyEdits() []edit {
	var edits []edit
	for _, path := range manyPaths() {
		edits = append(edits, editsAt(path...)...)
		edits = append(edits, inserting(wrongNodes()[len(path)%20], path...), settingKids(longTrees()[0], path...), settingAttr("A", "", path...), droppingAttr("\xff", path...), settingWords("", path...), settingKids(nil, path...))
	}
	for i, nodes := range slices.Concat(grownTrees(60), dressedTrees(60)) {
		g := newGrower(int64(i), 0)
		for range 4 {
			edits = append(edits, g.anyEdit(nodes))
		}
	}
	for i, e := range edits {
		edits[i] = e.withRoom()
	}
	return edits
}

// manyEditCalls take each tree with some of the edits.
func manyEditCalls(trees [][]impl.Node, edits []edit) []call {
	var calls []call
	for i, nodes := range trees {
		for k := range 12 {
			e := edits[(i*12+k)%len(edits)]
			calls = append(calls, func() []any { return answers(e.of(nodes)) })
		}
	}
	return calls
}

// manyHouses are right and wrong ones, with room behind their lists' ends.
func manyHouses() []impl.House {
	houses := append(differing(), furnished(), housing(), impl.House{Docs: docsNamed("p p p p p p")}, impl.House{Docs: docsNamed("p p p p p p p")}, impl.House{Configs: make([]impl.Config, 5)}, housing(doc("P")), housing(doc("br", words("x"))), housing(doc("style", comment("x"))))
	for i, nodes := range slices.Concat(rightTrees()[:40], grownTrees(40), brokenTrees(40), wrongTrees(), longTrees()) {
		houses = append(houses, impl.House{Docs: []impl.Doc{doc("p"), doc("div", nodes...), doc("style", words("<"))}, Configs: fourConfigs(i)})
	}
	for _, c := range manyConfigs() {
		houses = append(houses, impl.House{Docs: docsNamed("p xmp"), Configs: []impl.Config{{}, c}})
	}
	for i, h := range houses {
		houses[i] = houseWithRoom(h)
	}
	return houses
}

// manyRuns are right and wrong calls, one behind the other, with room behind their lists' ends.
func manyRuns() [][]impl.Call {
	runs := [][]impl.Call{nil, callsOn(0), callsOn(5), noCalls(), make([]impl.Call, impl.MaxCalls+1), make([]impl.Call, impl.MaxList+1)}
	for _, c := range noCalls() {
		runs = append(runs, []impl.Call{creating(0, "p"), c})
	}
	for i := range 120 {
		g := newGrower(int64(3000+i), 0)
		h := impl.House{Configs: fourConfigs(i)}
		var calls []impl.Call
		for range 1 + i%impl.MaxCalls {
			calls = append(calls, g.anyCall(h))
			h, _, _ = doneBy(h, calls[len(calls)-1])
		}
		runs = append(runs, calls)
	}
	for i, calls := range runs {
		runs[i] = callsWithRoom(calls)
	}
	return runs
}

// manyDocCalls take each house with some of the calls, and each run with the configurations of one.
func manyDocCalls(houses []impl.House, runs [][]impl.Call) []call {
	var calls []call
	for i, h := range houses {
		calls = append(calls,
			func() []any { return answers(impl.HouseOK(h)) },
			func() []any { return answers(impl.SameHouse(h, houses[i/2])) },
			func() []any { return answers(impl.SameHouse(houses[i], h)) },
			func() []any { return answers(impl.NewHouse(h.Configs)) },
		)
		run := runs[i%len(runs)]
		for _, c := range slices.Concat(callsOn(i%3), run[:min(len(run), 4)]) {
			calls = append(calls, func() []any { return answers(impl.DoCall(h, c)) })
		}
	}
	for i, run := range runs {
		for k := range 3 {
			h := houses[(i*3+k)%len(houses)]
			calls = append(calls, func() []any { return answers(impl.RunCalls(h.Configs, run)) })
		}
		calls = append(calls,
			func() []any { return answers(impl.RunCalls(fourConfigs(i), run)) },
			func() []any { return answers(impl.SafeDocs(run)) },
		)
		for _, c := range run[:min(len(run), impl.MaxCalls)] {
			calls = append(calls, func() []any { return answers(impl.CallOK(c)) })
		}
	}
	return calls
}

// TestAnswersHangOnArgumentsAlone fails, too, if a call panics.
func TestAnswersHangOnArgumentsAlone(t *testing.T) {
	texts := manyTexts()
	before := make([]string, len(texts))
	for i, s := range texts {
		before[i] = strings.Clone(s)
	}
	checkCallsStay(t, manyCalls(texts))
	if !reflect.DeepEqual(texts, before) {
		t.Error("a call changed an argument")
	}
}

func TestAnswersOfTreesHangOnArgumentsAlone(t *testing.T) {
	trees, paths := manyTrees(), manyPaths()
	before, pathsBefore := shown(trees), fmt.Sprint(paths)
	checkCallsStay(t, manyTreeCalls(trees, paths))
	if !slices.Equal(shown(trees), before) || fmt.Sprint(paths) != pathsBefore {
		t.Error("a call changed an argument")
	}
}

// TestAnswersOfStacksHangOnArgumentsAlone holds them against answers of copies, too.
func TestAnswersOfStacksHangOnArgumentsAlone(t *testing.T) {
	stacks := manyStacks()
	var copies, before [][]impl.Open
	for _, stack := range stacks {
		copies = append(copies, slices.Clip(slices.Clone(stack)))
		before = append(before, slices.Clone(stack[:cap(stack)]))
	}
	calls, again := manyStackCalls(stacks), manyStackCalls(copies)
	checkCallsStay(t, calls)
	checkAlike(t, calls, again)
	for i, stack := range stacks {
		if !slices.Equal(stack[:cap(stack)], before[i]) {
			t.Errorf("a call changed stack %d", i)
		}
	}
}

// TestAnswersOfConfigsHangOnArgumentsAlone holds them against answers of copies, too, which have nil in the place of empty lists.
func TestAnswersOfConfigsHangOnArgumentsAlone(t *testing.T) {
	configs := manyConfigs()
	var copies, before []impl.Config
	for _, c := range configs {
		copies = append(copies, copiedConfig(c))
		before = append(before, wholeConfig(c))
	}
	calls, again := manyConfigCalls(configs), manyConfigCalls(copies)
	checkCallsStay(t, calls)
	checkAlike(t, calls, again)
	for i, c := range configs {
		if !reflect.DeepEqual(wholeConfig(c), before[i]) {
			t.Errorf("a call changed configuration %d", i)
		}
	}
}

// TestAnswersOfSanitizingHangOnArgumentsAlone holds them against answers of copies, too, which have nil in the place of empty lists.
func TestAnswersOfSanitizingHangOnArgumentsAlone(t *testing.T) {
	checkSanitizingStays(t, manySanitizeCalls)
}

// TestAnswersOfWatchingHangOnArgumentsAlone does likewise.
func TestAnswersOfWatchingHangOnArgumentsAlone(t *testing.T) {
	checkSanitizingStays(t, manyWatchCalls)
}

// checkSanitizingStays makes calls of trees, texts and configurations.
func checkSanitizingStays(t *testing.T, calling func(trees [][]impl.Node, texts []string, configs []impl.Config) []call) {
	t.Helper()
	trees, configs, texts := manyTrees(), manyConfigs(), append(manyTexts(), harmTexts()...)
	for _, x := range append(dressedTrees(200), mutantTrees(200)...) {
		trees = append(trees, withRoom(x))
	}
	var treeCopies [][]impl.Node
	for _, x := range trees {
		treeCopies = append(treeCopies, copied(x))
	}
	var copies, before []impl.Config
	for _, c := range configs {
		copies = append(copies, copiedConfig(c))
		before = append(before, wholeConfig(c))
	}
	treesBefore := shown(trees)
	calls, again := calling(trees, texts, configs), calling(treeCopies, texts, copies)
	checkCallsStay(t, calls)
	checkAlike(t, calls, again)
	if !slices.Equal(shown(trees), treesBefore) {
		t.Error("a call changed a tree")
	}
	for i, c := range configs {
		if !reflect.DeepEqual(wholeConfig(c), before[i]) {
			t.Errorf("a call changed configuration %d", i)
		}
	}
}

// TestAnswersOfEditsHangOnArgumentsAlone holds them against answers of copies, too, which have nil in the place of empty lists.
func TestAnswersOfEditsHangOnArgumentsAlone(t *testing.T) {
	trees, edits := manyTrees(), manyEdits()
	for _, nodes := range slices.Concat(dressedTrees(200), withSixAttrs(grownTrees(60))) {
		trees = append(trees, withRoom(nodes))
	}
	var copies [][]impl.Node
	for _, nodes := range trees {
		copies = append(copies, copied(nodes))
	}
	var editCopies []edit
	var editsBefore []string
	for _, e := range edits {
		editCopies = append(editCopies, edit{e.call, clipped(e.path), copied(tree(e.x))[0], e.a, e.text, copied(e.kids)})
		editsBefore = append(editsBefore, e.shown())
	}
	treesBefore := shown(trees)
	calls, again := manyEditCalls(trees, edits), manyEditCalls(copies, editCopies)
	checkCallsStay(t, calls)
	checkAlike(t, calls, again)
	if !slices.Equal(shown(trees), treesBefore) {
		t.Error("a call changed a tree")
	}
	for i, e := range edits {
		if e.shown() != editsBefore[i] {
			t.Errorf("a call changed what edit %d is given", i)
		}
	}
}

// TestAnswersOfDocsHangOnArgumentsAlone holds them against answers of copies, too, which have nil in the place of empty lists.
func TestAnswersOfDocsHangOnArgumentsAlone(t *testing.T) {
	houses, runs := manyHouses(), manyRuns()
	var copies []impl.House
	var runCopies [][]impl.Call
	var before []string
	for _, h := range houses {
		copies, before = append(copies, copiedHouse(h)), append(before, shownHouse(h))
	}
	for _, run := range runs {
		run, before = clipped(run), append(before, shownCalls(run))
		for i, c := range run {
			run[i].Path = clipped(c.Path)
		}
		runCopies = append(runCopies, run)
	}
	calls, again := manyDocCalls(houses, runs), manyDocCalls(copies, runCopies)
	checkCallsStay(t, calls)
	checkAlike(t, calls, again)
	for i, h := range houses {
		if shownHouse(h) != before[i] {
			t.Errorf("a call changed house %d", i)
		}
	}
	for i, run := range runs {
		if shownCalls(run) != before[len(houses)+i] {
			t.Errorf("a call changed run %d", i)
		}
	}
}

// shown tells what stands behind the ends of the lists, too.
func shown(trees [][]impl.Node) []string {
	var wholes []string
	for _, x := range trees {
		wholes = append(wholes, show(whole(x)))
	}
	return wholes
}

func whole(nodes []impl.Node) []impl.Node {
	var out []impl.Node
	for _, x := range nodes[:cap(nodes)] {
		x.Attrs = x.Attrs[:cap(x.Attrs)]
		x.Kids = whole(x.Kids)
		out = append(out, x)
	}
	return out
}

// checkCallsStay makes the calls again, backwards, and then in four orders at once.
func checkCallsStay(t *testing.T, calls []call) {
	t.Helper()
	first := make([][]any, len(calls))
	for i, c := range calls {
		first[i] = c()
	}
	check := func(i int) {
		if got := calls[i](); !reflect.DeepEqual(got, first[i]) {
			t.Errorf("call %d answers %.60q, at first %.60q", i, got, first[i])
		}
	}
	for i := len(calls) - 1; i >= 0; i-- {
		check(i)
	}
	var workers sync.WaitGroup
	for seed := range int64(4) {
		workers.Go(func() {
			for _, i := range rand.New(rand.NewSource(seed)).Perm(len(calls)) {
				check(i)
			}
		})
	}
	workers.Wait()
}

// checkAlike takes the same calls twice, with arguments that are alike.
func checkAlike(t *testing.T, calls, again []call) {
	t.Helper()
	for i := range calls {
		if got, want := again[i](), calls[i](); !reflect.DeepEqual(got, want) {
			t.Errorf("call %d of alike arguments answers %.60q, want %.60q", i, got, want)
		}
	}
}

// TestAlikeTextsOfOtherMemory holds texts against copies of them and against parts of longer ones.
func TestAlikeTextsOfOtherMemory(t *testing.T) {
	texts := manyTexts()
	copies := make([]string, len(texts))
	for i, s := range texts {
		copies[i] = ("javascript:" + s + "onclick")[len("javascript:"):][:len(s)]
	}
	calls, again := manyCalls(texts), manyCalls(copies)
	checkAlike(t, calls, again)
}

// TestAlikeTreesOfOtherMemory holds trees with empty lists, and with room, against ones without.
func TestAlikeTreesOfOtherMemory(t *testing.T) {
	trees, paths := manyTrees(), manyPaths()
	copies := make([][]impl.Node, len(trees))
	for i, x := range trees {
		copies[i] = copied(x)
	}
	calls, again := manyTreeCalls(trees, paths), manyTreeCalls(copies, paths)
	checkAlike(t, calls, again)
}
