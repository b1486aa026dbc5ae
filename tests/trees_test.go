package tests

import (
	"cmp"
	"math"
	"reflect"
	"regexp"
	"slices"
	"strings"
	"testing"

	"loop.example/g00788/impl"
)

var tagName = regexp.MustCompile(`\A[a-z][a-z0-9-]{0,11}\z`)

// isTree reads chapter 4 in another way than the program: sort by sort, down to a number of levels.
func isTree(nodes []impl.Node) bool {
	count := 0
	level := nodes
	for range impl.MaxDepth {
		count += len(level)
		if count > impl.MaxNodes {
			return false
		}
		var below []impl.Node
		for _, x := range level {
			if !standsAlone(x) || !holdsRight(x) {
				return false
			}
			below = append(below, x.Kids[:min(len(x.Kids), impl.MaxNodes+1)]...)
		}
		level = below
	}
	return len(level) == 0
}

func standsAlone(x impl.Node) bool {
	if x.Kind == 2 || x.Kind == 3 {
		alone := impl.Node{Kind: x.Kind, Text: x.Text}
		return show(tree(alone)) == show([]impl.Node{{Kind: x.Kind, Space: x.Space, Name: x.Name, Text: x.Text, Attrs: x.Attrs}}) &&
			len(x.Text) <= 120 && (x.Kind == 3 || len(x.Text) > 0)
	}
	names := map[string]bool{}
	for _, a := range x.Attrs {
		names[a.Name] = true
		if !tagName.MatchString(a.Name) || len(a.Value) > 40 {
			return false
		}
	}
	return x.Kind == 1 && slices.Contains([]int{0, 1, 2}, x.Space) && x.Text == "" && tagName.MatchString(x.Name) &&
		len(names) == len(x.Attrs) && len(names) <= 6
}

func holdsRight(x impl.Node) bool {
	if len(x.Kids) == 0 {
		return true
	}
	if x.Kind != 1 {
		return false
	}
	if x.Space == 0 && strings.Contains(" br hr img input meta link base embed ", " "+x.Name+" ") {
		return false
	}
	if x.Space == 0 && strings.Contains(" style script xmp iframe ", " "+x.Name+" ") {
		return !slices.ContainsFunc(x.Kids, func(kid impl.Node) bool { return kid.Kind != 2 })
	}
	return true
}

func TestNumbersOfTrees(t *testing.T) {
	for _, v := range [][2]int{
		{impl.NdElement, 1}, {impl.NdText, 2}, {impl.NdComment, 3},
		{impl.MaxAttrs, 6}, {impl.MaxValue, 40}, {impl.MaxWords, 120}, {impl.MaxNodes, 60}, {impl.MaxDepth, 10},
	} {
		if v[0] != v[1] {
			t.Errorf("a constant of chapter 4 is %d, want %d", v[0], v[1])
		}
	}
}

func TestWhatIsATree(t *testing.T) {
	for i, x := range append(rightTrees(), grownTrees(300)...) {
		if !isTree(x) || !impl.TreeOK(x) || !impl.TreeOK(withRoom(x)) {
			t.Errorf("TreeOK of right tree %d: %v, %.80s", i, impl.TreeOK(x), show(x))
		}
	}
	for i, x := range slices.Concat(wrongTrees(), hugeTrees(), longTrees()) {
		if isTree(x) || impl.TreeOK(x) {
			t.Errorf("TreeOK of wrong tree %d", i)
		}
	}
}

// TestTreesWithOneFault changes one node of right trees, and holds TreeOK against the other reading.
func TestTreesWithOneFault(t *testing.T) {
	faults := wrongNodes()
	told := map[bool]int{}
	for i, x := range grownTrees(400) {
		g := newGrower(int64(i), 0)
		for range 5 {
			changed := copied(x)
			spot := somewhere(g, changed)
			if spot == nil {
				continue
			}
			switch g.Intn(5) {
			case 0:
				*spot = faults[g.Intn(len(faults))]
			case 1:
				spot.Kind = g.Intn(5)
			case 2:
				spot.Space = g.Intn(5) - 1
			case 3:
				spot.Name = g.pick("style", "br", "p", "", "B", "xmp")
			case 4:
				spot.Kids = append(spot.Kids, repeated(words("k"), 1+g.Intn(3))...)
			}
			want := isTree(changed)
			told[want]++
			if got := impl.TreeOK(changed); got != want {
				t.Errorf("TreeOK = %v: %.300s", got, show(changed))
			}
		}
	}
	if told[true] < 100 || told[false] < 100 {
		t.Error("too few of a sort", told)
	}
}

// somewhere is a node of a tree by chance, nil of an empty one.
func somewhere(g *grower, nodes []impl.Node) *impl.Node {
	if len(nodes) == 0 {
		return nil
	}
	x := &nodes[g.Intn(len(nodes))]
	if deeper := somewhere(g, x.Kids); deeper != nil && g.Intn(3) > 0 {
		return deeper
	}
	return x
}

// A placed is a node with the path that leads to it.
type placed struct {
	node impl.Node
	path []int
}

// listed reads a right tree as a list of its nodes, each ahead of its Kids.
func listed(nodes []impl.Node, ahead ...int) []placed {
	var list []placed
	for i, x := range nodes {
		path := append(slices.Clone(ahead), i)
		list = append(append(list, placed{x, path}), listed(x.Kids, path...)...)
	}
	return list
}

func TestWhatIsToldOfTrees(t *testing.T) {
	for i, x := range append(rightTrees(), grownTrees(300)...) {
		list := listed(x)
		deepest, text := 0, ""
		var names []string
		for _, p := range list {
			deepest = max(deepest, len(p.path))
			if p.node.Kind == impl.NdText {
				text += p.node.Text
			}
			if p.node.Kind == impl.NdElement && !slices.Contains(names, p.node.Name) {
				names = append(names, p.node.Name)
			}
		}
		if got, code := impl.CountOf(x); got != len(list) || code != impl.OK {
			t.Errorf("CountOf of tree %d = %d, %d, want %d", i, got, code, len(list))
		}
		if got, code := impl.DepthOf(x); got != deepest || code != impl.OK {
			t.Errorf("DepthOf of tree %d = %d, %d, want %d", i, got, code, deepest)
		}
		if got, code := impl.TextOf(x); got != text || code != impl.OK {
			t.Errorf("TextOf of tree %d = %q, %d, want %q", i, got, code, text)
		}
		if got, code := impl.NamesIn(x); !slices.Equal(got, names) || code != impl.OK {
			t.Errorf("NamesIn of tree %d = %q, %d, want %q", i, got, code, names)
		}
	}
}

func TestToldOfATreeByHand(t *testing.T) {
	x := tree(element("p", words("a"), element("br"), comment("no"), element("b", words("b"), element("p", words("c")))), words("d"), inSpace(impl.SpSvg, "br", words("e")))
	if n, code := impl.CountOf(x); n != 11 || code != 0 {
		t.Error("CountOf", n, code)
	}
	if n, code := impl.DepthOf(x); n != 4 || code != 0 {
		t.Error("DepthOf", n, code)
	}
	if s, code := impl.TextOf(x); s != "abcde" || code != 0 {
		t.Error("TextOf", s, code)
	}
	if names, code := impl.NamesIn(x); strings.Join(names, " ") != "p br b" || code != 0 {
		t.Error("NamesIn", names, code)
	}
	if n, code := impl.DepthOf(nested(impl.MaxDepth)); n != impl.MaxDepth || code != 0 {
		t.Error("DepthOf", n, code)
	}
	if n, code := impl.CountOf(repeated(element("br"), impl.MaxNodes)); n != impl.MaxNodes || code != 0 {
		t.Error("CountOf", n, code)
	}
}

// oddPaths lead nowhere in any tree.
func oddPaths() [][]int {
	return [][]int{
		nil, {}, {-1}, {math.MinInt}, {math.MaxInt}, {impl.MaxNodes}, {1 << 32}, {-1 << 32}, {0, -1}, {0, 0, math.MinInt}, {0, 0, 0, math.MaxInt},
		make([]int, impl.MaxDepth+1), make([]int, impl.MaxList),
	}
}

func TestNodesAtPaths(t *testing.T) {
	for i, x := range append(rightTrees(), grownTrees(100)...) {
		for _, p := range listed(x) {
			got, code := impl.NodeAt(x, p.path)
			if show(tree(got)) != show(tree(p.node)) || code != impl.OK {
				t.Errorf("NodeAt of tree %d, %v = %v, %d", i, p.path, got, code)
			}
			for _, path := range [][]int{append(slices.Clone(p.path), len(p.node.Kids)), append(slices.Clone(p.path), -1), append(slices.Clone(p.path), math.MaxInt)} {
				noNodeAt(t, x, path, impl.ErrPlace)
			}
		}
		noNodeAt(t, x, []int{len(x)}, impl.ErrPlace)
		for _, path := range oddPaths() {
			noNodeAt(t, x, path, impl.ErrPlace)
		}
		noNodeAt(t, x, make([]int, impl.MaxList+1), impl.ErrLong)
	}
	x := tree(words("a"), element("p", comment("b")))
	noNodeAt(t, x, []int{0, 0}, impl.ErrPlace)
	noNodeAt(t, x, []int{1, 0, 0}, impl.ErrPlace)
}

func noNodeAt(t *testing.T, x []impl.Node, path []int, want int) {
	t.Helper()
	got, code := impl.NodeAt(x, path)
	if code != want || !reflect.DeepEqual(got, impl.Node{}) {
		t.Errorf("NodeAt %.60v = %v, %d, want code %d", path, got, code, want)
	}
}

func TestCodesOfWhatIsNoTree(t *testing.T) {
	check := func(i int, x []impl.Node, want int) {
		t.Helper()
		n, c1 := impl.CountOf(x)
		d, c2 := impl.DepthOf(x)
		s, c3 := impl.TextOf(x)
		names, c4 := impl.NamesIn(x)
		merged, c5 := impl.MergeText(x)
		if n != 0 || d != 0 || s != "" || len(names) != 0 || len(merged) != 0 {
			t.Errorf("wrong tree %d: %d %d %q %q %v beside a code", i, n, d, s, names, merged)
		}
		for k, code := range []int{c1, c2, c3, c4, c5} {
			if code != want {
				t.Errorf("wrong tree %d: code %d of call %d, want %d", i, code, k, want)
			}
		}
		for _, path := range append(oddPaths(), []int{0}) {
			noNodeAt(t, x, path, want)
		}
		noNodeAt(t, x, make([]int, impl.MaxList+1), impl.ErrLong)
	}
	for i, x := range append(wrongTrees(), hugeTrees()...) {
		check(i, x, impl.ErrBad)
	}
	for i, x := range longTrees() {
		check(i, x, impl.ErrLong)
	}
}

// mergedByText reads MergeText in another way than the program: run by run of texts.
func mergedByText(nodes []impl.Node) []impl.Node {
	var out []impl.Node
	for i := 0; i < len(nodes); i++ {
		x := nodes[i]
		if x.Kind != impl.NdText {
			x.Kids = mergedByText(x.Kids)
			out = append(out, x)
			continue
		}
		run := x.Text
		for i+1 < len(nodes) && nodes[i+1].Kind == impl.NdText {
			i++
			if len(run+nodes[i].Text) > 120 {
				out = append(out, words(run))
				run = ""
			}
			run += nodes[i].Text
		}
		out = append(out, words(run))
	}
	return out
}

func TestMergedTrees(t *testing.T) {
	for i, x := range append(rightTrees(), grownTrees(400)...) {
		got, code := impl.MergeText(x)
		if want := mergedByText(x); show(got) != show(want) || code != impl.OK {
			t.Errorf("MergeText of tree %d = %s, %d, want %s", i, show(got), code, show(want))
		}
		again, code := impl.MergeText(got)
		if !impl.SameTree(got, again) || code != impl.OK {
			t.Errorf("MergeText of tree %d, merged again: %s, %d", i, show(again), code)
		}
		before, _ := impl.TextOf(x)
		if after, code := impl.TextOf(got); before != after || code != impl.OK {
			t.Errorf("merged, tree %d tells %q, %d, ahead %q", i, after, code, before)
		}
	}
}

func TestMergedByHand(t *testing.T) {
	a, b, c := strings.Repeat("a", 60), strings.Repeat("b", 60), strings.Repeat("c", 61)
	for i, v := range [][2][]impl.Node{
		{tree(words("a"), words("b"), words("c")), tree(words("abc"))},
		{tree(words(a), words(b)), tree(words(a + b))},
		{tree(words(a), words(c)), tree(words(a), words(c))},
		{tree(words(a), words(b), words("x"), words("y")), tree(words(a+b), words("xy"))},
		{tree(words(a), words(c), words("x")), tree(words(a), words(c+"x"))},
		{tree(words(a), words(c), words(a)), tree(words(a), words(c), words(a))},
		{tree(words("a"), comment(""), words("b"), element("br"), words("c"), words("d")), tree(words("a"), comment(""), words("b"), element("br"), words("cd"))},
		{tree(element("p", words("a"), words("b")), element("style", words("c"), words("<d"))), tree(element("p", words("ab")), element("style", words("c<d")))},
		{tree(comment("a"), comment("b")), tree(comment("a"), comment("b"))},
		{tree(inSpace(2, "mi", inSpace(1, "a", words("a"), words("b")), words("c"))), tree(inSpace(2, "mi", inSpace(1, "a", words("ab")), words("c")))},
	} {
		if got, code := impl.MergeText(v[0]); show(got) != show(v[1]) || code != impl.OK {
			t.Errorf("%d: MergeText = %s, %d, want %s", i, show(got), code, show(v[1]))
		}
	}
}

func TestSameTrees(t *testing.T) {
	trees := append(rightTrees(), grownTrees(60)...)
	for _, a := range trees {
		if !impl.SameTree(a, withRoom(a)) || !impl.SameTree(copied(a), a) {
			t.Errorf("a tree and its copy are not alike: %s", show(a))
		}
		for _, b := range trees {
			if got, want := impl.SameTree(a, b), show(a) == show(b); got != want {
				t.Errorf("SameTree = %v of %s and %s", got, show(a), show(b))
			}
		}
	}
	for i, wrong := range slices.Concat(wrongTrees(), hugeTrees(), longTrees()) {
		if impl.SameTree(wrong, wrong) || impl.SameTree(wrong, nil) || impl.SameTree(nil, wrong) {
			t.Errorf("wrong tree %d is the same as one", i)
		}
	}
}

// TestTreesThatDifferInOneThing holds each field, at the outside and deep within.
func TestTreesThatDifferInOneThing(t *testing.T) {
	base := withAttrs(inSpace(1, "g", words("a"), comment("b")), "a", "1", "b", "2")
	others := []impl.Node{
		withAttrs(inSpace(2, "g", words("a"), comment("b")), "a", "1", "b", "2"),
		withAttrs(inSpace(1, "h", words("a"), comment("b")), "a", "1", "b", "2"),
		withAttrs(inSpace(1, "g", words("A"), comment("b")), "a", "1", "b", "2"),
		withAttrs(inSpace(1, "g", comment("a"), comment("b")), "a", "1", "b", "2"),
		withAttrs(inSpace(1, "g", words("a"), comment("")), "a", "1", "b", "2"),
		withAttrs(inSpace(1, "g", comment("b"), words("a")), "a", "1", "b", "2"),
		withAttrs(inSpace(1, "g", words("a"), comment("b"), comment("b")), "a", "1", "b", "2"),
		withAttrs(inSpace(1, "g", words("a")), "a", "1", "b", "2"),
		withAttrs(inSpace(1, "g", words("a"), comment("b")), "a", "1", "b", ""),
		withAttrs(inSpace(1, "g", words("a"), comment("b")), "a", "1", "c", "2"),
		withAttrs(inSpace(1, "g", words("a"), comment("b")), "b", "2", "a", "1"),
		withAttrs(inSpace(1, "g", words("a"), comment("b")), "a", "1"),
		withAttrs(inSpace(1, "g", words("a"), comment("b")), "a", "1", "b", "2", "c", "3"),
	}
	for i, other := range others {
		for _, around := range []func(impl.Node) []impl.Node{
			func(x impl.Node) []impl.Node { return tree(x) },
			func(x impl.Node) []impl.Node { return tree(words("a"), x, words("b")) },
			func(x impl.Node) []impl.Node { return nested(8, x) },
		} {
			if impl.SameTree(around(base), around(other)) || impl.SameTree(around(other), around(base)) {
				t.Errorf("SameTree does not see how %d differs", i)
			}
		}
	}
}

// TestTreesAnsweredAreNewMemory writes into answers, and looks at the arguments.
func TestTreesAnsweredAreNewMemory(t *testing.T) {
	for i, x := range append(rightTrees(), grownTrees(100)...) {
		x = withRoom(x)
		before := show(whole(x))
		merged, _ := impl.MergeText(x)
		noListsShared(t, merged)
		spoil(merged)
		for _, p := range listed(x) {
			node, _ := impl.NodeAt(x, p.path)
			noListsShared(t, tree(node))
			spoil(tree(node))
		}
		names, _ := impl.NamesIn(x)
		for k := range names {
			names[k] = "spoilt"
		}
		if show(whole(x)) != before {
			t.Errorf("an answer shares memory with tree %d", i)
		}
	}
}

func noListsShared(t *testing.T, nodes []impl.Node) {
	t.Helper()
	checkApart(t, listsOfTree(nodes))
}

func listsOfTree(nodes []impl.Node) []reflect.Value {
	lists := []reflect.Value{reflect.ValueOf(nodes)}
	for _, x := range nodes {
		lists = append(append(lists, reflect.ValueOf(x.Attrs)), listsOfTree(x.Kids)...)
	}
	return lists
}

// checkApart holds that no two lists share memory, behind their ends either.
func checkApart(t *testing.T, lists []reflect.Value) {
	t.Helper()
	var places [][2]uintptr
	for _, list := range lists {
		if list.Cap() > 0 {
			places = append(places, [2]uintptr{list.Pointer(), list.Pointer() + uintptr(list.Cap())*list.Type().Elem().Size()})
		}
	}
	slices.SortFunc(places, func(a, b [2]uintptr) int { return cmp.Compare(a[0], b[0]) })
	for i := 1; i < len(places); i++ {
		if places[i][0] < places[i-1][1] {
			t.Error("two lists share memory")
		}
	}
}
