package tests

import (
	"slices"
	"strings"
	"testing"

	"loop.example/g00788/impl"
)

// laidIn are nodes that may be laid into trees.
func laidIn() []impl.Node {
	return []impl.Node{
		words("N"), words("<b>&amp;"), comment(""), comment("-->"), element("p"), element("br"), element("style", words("<")), inSpace(1, "style", comment("--")),
		withAttrs(element("a", words("x"), element("b", words("y"))), "href", "javascript:", "onclick", "z"), inSpace(2, "math", inSpace(1, "br", words("x"))),
	}
}

// gaps are the paths at which something may be inserted: ahead of each node, and behind the last one of each list.
func gaps(nodes []impl.Node) [][]int {
	paths := [][]int{{len(nodes)}}
	for _, p := range listed(nodes) {
		paths = append(paths, p.path, append(slices.Clone(p.path), len(p.node.Kids)))
	}
	return paths
}

// toldAt is what NodeAt tells, the code beside it.
func toldAt(nodes []impl.Node, path []int) (string, int) {
	x, code := impl.NodeAt(nodes, path)
	return show(tree(x)), code
}

// TestWhatIsLaidInStandsThere inserts at each place, and takes away again.
func TestWhatIsLaidInStandsThere(t *testing.T) {
	told := map[int]int{}
	for i, nodes := range slices.Concat(rightTrees()[:40], grownTrees(60), dressedTrees(60)) {
		for k, path := range gaps(nodes) {
			x := laidIn()[(i+k)%len(laidIn())]
			with, code := impl.InsertAt(nodes, path, x)
			told[code]++
			if code != impl.OK {
				continue
			}
			if got, code := toldAt(with, path); got != show(tree(x)) || code != impl.OK || !isTree(with) {
				t.Errorf("laid into %.200s at %v, %s is %s, %d", show(nodes), path, show(tree(x)), got, code)
			}
			if without, code := impl.RemoveAt(with, path); !impl.SameTree(without, nodes) || show(without) != show(nodes) || code != impl.OK {
				t.Errorf("without what was laid in at %v, %.300s is %.300s, %d", path, show(nodes), show(without), code)
			}
			if ahead, _ := impl.CountOf(nodes); len(listed(with)) != ahead+len(listed(tree(x))) {
				t.Errorf("laid into %.200s at %v, %s makes %d nodes of %d", show(nodes), path, show(tree(x)), len(listed(with)), ahead)
			}
		}
	}
	if told[impl.OK] < 500 || told[impl.ErrFull] < 200 || len(told) != 2 {
		t.Error("too few of one sort", told)
	}
}

// TestWhatIsTakenAwayIsLaidInAgain removes each node, and inserts it where it stood.
func TestWhatIsTakenAwayIsLaidInAgain(t *testing.T) {
	for _, nodes := range slices.Concat(rightTrees(), grownTrees(60), dressedTrees(60)) {
		for _, p := range listed(nodes) {
			without, code := impl.RemoveAt(nodes, p.path)
			if code != impl.OK || !isTree(without) || len(listed(without)) != len(listed(nodes))-len(listed(tree(p.node))) {
				t.Errorf("without the node at %v %.300s is %.300s, %d", p.path, show(nodes), show(without), code)
			}
			again, code := impl.InsertAt(without, p.path, p.node)
			if show(again) != show(nodes) || code != impl.OK {
				t.Errorf("with the node at %v again %.300s is %.300s, %d", p.path, show(nodes), show(again), code)
			}
		}
	}
}

// withSixAttrs are alike trees, but that all elements have as many Attrs as they may.
func withSixAttrs(trees [][]impl.Node) [][]impl.Node {
	var full [][]impl.Node
	for _, nodes := range trees {
		nodes = copied(nodes)
		for _, p := range listed(nodes) {
			x := nodeIn(nodes, p.path)
			for _, name := range strings.Fields("src class id onclick data-x a") {
				if x.Kind == impl.NdElement && len(x.Attrs) < impl.MaxAttrs {
					x.Attrs = attrsSetBy(x.Attrs, impl.Attr{Name: name, Value: "full"})
				}
			}
		}
		full = append(full, nodes)
	}
	return full
}

// TestAttrsThatAreSetAreThere sets and drops attributes of each element, those that it has and others.
func TestAttrsThatAreSetAreThere(t *testing.T) {
	told := map[int]int{}
	for i, nodes := range slices.Concat(rightTrees()[:60], grownTrees(100), dressedTrees(100), withSixAttrs(grownTrees(60))) {
		for k, p := range listed(nodes) {
			a := impl.Attr{Name: []string{"id", "href", "onclick", "data-x", "f"}[(i+k)%5], Value: []string{"", "\"<&>", strings.Repeat("v", 40)}[(i+k)%3]}
			had := slices.ContainsFunc(p.node.Attrs, func(b impl.Attr) bool { return b.Name == a.Name })
			set, code := impl.SetAttr(nodes, p.path, a)
			told[code]++
			if code != impl.OK {
				continue
			}
			checkSetAttr(t, nodes, set, p, a)
			dropped, code := impl.DropAttr(set, p.path, a.Name)
			want := nodes
			if had {
				told[-1]++
				want, _ = impl.DropAttr(nodes, p.path, a.Name)
			}
			if show(dropped) != show(want) || code != impl.OK {
				t.Errorf("set and dropped at %v of %.200s, %s leaves %.300s, %d", p.path, show(nodes), a.Name, show(dropped), code)
			}
			if again, code := impl.DropAttr(dropped, p.path, a.Name); show(again) != show(dropped) || code != impl.ErrSame {
				t.Errorf("dropped again at %v of %.200s, %s leaves %.300s, %d", p.path, show(dropped), a.Name, show(again), code)
			}
		}
	}
	if told[impl.OK] < 500 || told[impl.ErrKind] < 200 || told[-1] < 100 || told[impl.ErrFull] < 20 || len(told) != 4 {
		t.Error("too few of one sort", told)
	}
}

// checkSetAttr looks at the one that was set, and that all others of its node, and all other nodes, are as they were.
func checkSetAttr(t *testing.T, nodes, set []impl.Node, p placed, a impl.Attr) {
	t.Helper()
	x, code := impl.NodeAt(set, p.path)
	place := slices.IndexFunc(p.node.Attrs, func(b impl.Attr) bool { return b.Name == a.Name })
	want := slices.Clone(p.node.Attrs)
	if place < 0 {
		want = append(want, a)
	} else {
		want[place] = a
	}
	if !slices.Equal(x.Attrs, want) || code != impl.OK {
		t.Errorf("at %v of %.200s with %q there is %q, want %q", p.path, show(nodes), a, x.Attrs, want)
	}
	back := copied(set)
	*nodeIn(back, p.path) = p.node
	if show(back) != show(nodes) {
		t.Errorf("with %q at %v %.200s is %.300s", a, p.path, show(nodes), show(set))
	}
}

// nodeIn is the node itself, at a path that is there.
func nodeIn(nodes []impl.Node, path []int) *impl.Node {
	if len(path) == 1 {
		return &nodes[path[0]]
	}
	return nodeIn(nodes[path[0]].Kids, path[1:])
}

// TestWordsAndKidsThatAreSetAreThere sets other ones, and those that were there again.
func TestWordsAndKidsThatAreSetAreThere(t *testing.T) {
	told := map[string]int{}
	for _, nodes := range slices.Concat(rightTrees()[:60], grownTrees(100), dressedTrees(100)) {
		for i, p := range listed(nodes) {
			other, back := settingWords("other", p.path...), settingWords(p.node.Text, p.path...)
			if p.node.Kind == impl.NdElement {
				kids := [][]impl.Node{nil, tree(words("other")), tree(comment("x"), element("b"))}[i%3]
				other, back = settingKids(kids, p.path...), settingKids(p.node.Kids, p.path...)
			}
			made, code := other.of(nodes)
			if code == impl.ErrFull && p.node.Kind == impl.NdElement {
				told["full"]++
				continue
			}
			told[other.call]++
			x, _ := impl.NodeAt(made, p.path)
			if x.Text != other.text || show(x.Kids) != show(other.kids) || code != impl.OK {
				t.Errorf("%.200s of %.200s tells %.200s, %d", other.shown(), show(nodes), show(tree(x)), code)
			}
			if again, code := back.of(made); show(again) != show(nodes) || code != impl.OK {
				t.Errorf("%.200s of %.200s, and back, is %.200s, %d", other.shown(), show(nodes), show(again), code)
			}
		}
	}
	if told["full"] < 50 || told["SetWords"] < 200 || told["SetKids"] < 200 {
		t.Error("too few of one sort", told)
	}
}

// anyPath leads, for the most part, to a node or to a gap.
func (g *grower) anyPath(nodes []impl.Node) []int {
	paths := gaps(nodes)
	path := slices.Clone(paths[g.Intn(len(paths))])
	if list := listed(nodes); len(list) > 0 && g.Intn(3) > 0 {
		path = slices.Clone(list[g.Intn(len(list))].path)
	}
	switch g.Intn(20) {
	case 0:
		path[g.Intn(len(path))] += g.Intn(5) - 2
	case 1:
		path = append(path, g.Intn(3)-1)
	case 2:
		path = path[:len(path)-1]
	}
	return path
}

// anyEdit is right in itself for the most part.
func (g *grower) anyEdit(nodes []impl.Node) edit {
	path, wrong := g.anyPath(nodes), g.Intn(12) == 0
	g.room = g.Intn(12)
	switch g.Intn(7) {
	case 0, 1:
		x := words("N" + g.text())
		if list := g.tree(g.Intn(9)); len(list) > 0 {
			x = list[0]
		}
		if wrong {
			x = wrongNodes()[g.Intn(len(wrongNodes()))]
		}
		return inserting(x, path...)
	case 2:
		return removing(path...)
	case 3:
		value := g.text()
		if wrong {
			value += strings.Repeat("v", 30+g.Intn(12))
		}
		return settingAttr(g.pick("href", "src", "class", "id", "onclick", "on", "data-x", "a", "ID", "a-"), value, path...)
	case 4:
		return droppingAttr(g.pick("href", "src", "class", "id", "onclick", "on", "data-x", "", "ID"), path...)
	case 5:
		text := g.text()
		if wrong {
			text += strings.Repeat("w", 100+g.Intn(22))
		}
		return settingWords(text, path...)
	}
	kids := g.tree(g.Intn(3))
	if wrong {
		kids = append(kids, wrongNodes()[g.Intn(len(wrongNodes()))])
	}
	return settingKids(kids, path...)
}

// TestAnyEdits makes one edit behind the other, and holds each against the second reading.
func TestAnyEdits(t *testing.T) {
	told := map[string]map[int]int{}
	for i, nodes := range slices.Concat(rightTrees()[:60], grownTrees(300), dressedTrees(300), brokenTrees(100), withSixAttrs(dressedTrees(100))) {
		g := newGrower(int64(i), 0)
		for range 14 {
			e := g.anyEdit(nodes)
			made, code := editedBy(nodes, e)
			checkEdit(t, nodes, e, made, code)
			if told[e.call] == nil {
				told[e.call] = map[int]int{}
			}
			told[e.call][code]++
			if code == impl.OK {
				nodes = made
			}
		}
	}
	for call, codes := range map[string][]int{
		"InsertAt": {impl.OK, impl.ErrBad, impl.ErrPlace, impl.ErrFull}, "RemoveAt": {impl.OK, impl.ErrPlace}, "SetAttr": {impl.OK, impl.ErrBad, impl.ErrPlace, impl.ErrKind, impl.ErrFull},
		"DropAttr": {impl.OK, impl.ErrPlace, impl.ErrKind, impl.ErrSame}, "SetWords": {impl.OK, impl.ErrPlace, impl.ErrKind, impl.ErrFull}, "SetKids": {impl.OK, impl.ErrBad, impl.ErrPlace, impl.ErrKind, impl.ErrFull},
	} {
		for _, code := range codes {
			if told[call][code] < 5 {
				t.Error("too few of one sort", call, code, told[call])
			}
		}
		if len(told[call]) != len(codes) {
			t.Error("a sort too many", call, told[call])
		}
	}
}

// TestWhatIsEditedIsNewMemory writes into answers, looks at the arguments, and asks again.
func TestWhatIsEditedIsNewMemory(t *testing.T) {
	for i, nodes := range slices.Concat(rightTrees()[:60], grownTrees(60), dressedTrees(60)) {
		g := newGrower(int64(i), 0)
		for range 10 {
			e := g.anyEdit(nodes).withRoom()
			nodes := withRoom(nodes)
			first, code := e.of(nodes)
			ahead := show(first)
			noListsShared(t, tree(element("made", first...), element("ahead", nodes...), e.x, element("kids", e.kids...)))
			spoil(nodes)
			spoil(e.kids)
			spoil(tree(e.x))
			if show(first) != ahead {
				t.Errorf("%s of %.200s, %d, shares memory with an argument", e.call, ahead, code)
			}
		}
	}
	inItself := tree(element("p", words("a"), withAttrs(element("b", words("c")), "id", "x")))
	for _, e := range []edit{inserting(inItself[0], 0, 1, 0), inserting(inItself[0].Kids[1], 0, 0), settingKids(inItself, 0, 1), settingKids(inItself[0].Kids, 0), settingKids(inItself, 0)} {
		before := show(inItself)
		made, code := e.of(inItself)
		want, _ := editedBy(copied(inItself), e)
		if show(made) != show(want) || code != impl.OK || show(inItself) != before {
			t.Errorf("%.200s of %s = %.200s, %d", e.shown(), before, show(made), code)
		}
		noListsShared(t, tree(element("made", made...), element("ahead", inItself...)))
		spoil(made)
		if show(inItself) != before {
			t.Errorf("%.200s shares memory with an argument", e.shown())
		}
	}
}
