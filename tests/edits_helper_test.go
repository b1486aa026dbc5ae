package tests

import (
	"fmt"
	"slices"
	"testing"

	"loop.example/g00788/impl"
)

// An edit is one call of chapter 10, with what it is given beside the tree.
type edit struct {
	call string
	path []int
	x    impl.Node
	a    impl.Attr
	text string
	kids []impl.Node
}

func inserting(x impl.Node, path ...int) edit { return edit{call: "InsertAt", path: path, x: x} }

func removing(path ...int) edit { return edit{call: "RemoveAt", path: path} }

func settingAttr(name, value string, path ...int) edit {
	return edit{call: "SetAttr", path: path, a: impl.Attr{Name: name, Value: value}}
}

func droppingAttr(name string, path ...int) edit {
	return edit{call: "DropAttr", path: path, text: name}
}

func settingWords(text string, path ...int) edit {
	return edit{call: "SetWords", path: path, text: text}
}

func settingKids(kids []impl.Node, path ...int) edit {
	return edit{call: "SetKids", path: path, kids: kids}
}

// editsAt are one of each call, all of them right in themselves.
func editsAt(path ...int) []edit {
	return []edit{
		inserting(words("x"), path...), removing(path...), settingAttr("id", "x", path...), droppingAttr("id", path...),
		settingWords("x", path...), settingKids(tree(words("x")), path...),
	}
}

func (e edit) of(nodes []impl.Node) ([]impl.Node, int) {
	switch e.call {
	case "InsertAt":
		return impl.InsertAt(nodes, e.path, e.x)
	case "RemoveAt":
		return impl.RemoveAt(nodes, e.path)
	case "SetAttr":
		return impl.SetAttr(nodes, e.path, e.a)
	case "DropAttr":
		return impl.DropAttr(nodes, e.path, e.text)
	case "SetWords":
		return impl.SetWords(nodes, e.path, e.text)
	case "SetKids":
		return impl.SetKids(nodes, e.path, e.kids)
	}
	panic("no call of chapter 10: " + e.call)
}

// withRoom has lists of the same elements with others behind their ends.
func (e edit) withRoom() edit {
	e.path = append(append(make([]int, 0, len(e.path)+2), e.path...), 1)[:len(e.path)]
	e.x = withRoom(tree(e.x))[0]
	e.kids = withRoom(e.kids)
	return e
}

// shown tells what stands behind the ends of the lists, too.
func (e edit) shown() string {
	return fmt.Sprintf("%s %v %s %.60q %.60q %s", e.call, e.path[:cap(e.path)], show(whole(tree(e.x))), e.a, e.text, show(whole(e.kids)))
}

// editedBy reads chapter 10 in another way than the program: from a list of all nodes, whose paths change.
func editedBy(nodes []impl.Node, e edit) ([]impl.Node, int) {
	switch {
	case len(nodes) > 4096 || len(e.path) > 4096 || len(e.kids) > 4096 || len(e.text) > 65536:
		return nil, impl.ErrLong
	case !isTree(nodes) || !e.isRightBy():
		return nil, impl.ErrBad
	}
	list := listed(nodes)
	if !e.hasPlaceBy(list) {
		return nil, impl.ErrPlace
	}
	if e.call != "InsertAt" && e.call != "RemoveAt" {
		x := list[placeOf(list, e.path)].node
		if (x.Kind == 1) == (e.call == "SetWords") {
			return nil, impl.ErrKind
		}
		if e.call == "DropAttr" && !slices.ContainsFunc(x.Attrs, func(a impl.Attr) bool { return a.Name == e.text }) {
			return nodes, impl.ErrSame
		}
	}
	made := treeOf(e.changedBy(list))
	if !isTree(made) {
		return nil, impl.ErrFull
	}
	return made, impl.OK
}

func (e edit) isRightBy() bool {
	switch e.call {
	case "InsertAt":
		return isTree(tree(e.x))
	case "SetAttr":
		return tagName.MatchString(e.a.Name) && len(e.a.Value) <= 40
	case "SetKids":
		return isTree(e.kids)
	}
	return true
}

func placeOf(list []placed, path []int) int {
	return slices.IndexFunc(list, func(p placed) bool { return slices.Equal(p.path, path) })
}

func (e edit) hasPlaceBy(list []placed) bool {
	if e.call != "InsertAt" || len(e.path) == 0 || placeOf(list, e.path) >= 0 {
		return placeOf(list, e.path) >= 0
	}
	above, last := e.path[:len(e.path)-1], e.path[len(e.path)-1]
	if last == 0 {
		return len(above) == 0 || placeOf(list, above) >= 0
	}
	return placeOf(list, append(slices.Clone(above), last-1)) >= 0
}

// changedBy leaves the nodes in any order, as they have their paths.
func (e edit) changedBy(list []placed) []placed {
	var changed []placed
	last := len(e.path) - 1
	for _, p := range list {
		p.path = slices.Clone(p.path)
		beside := len(p.path) > last && slices.Equal(p.path[:last], e.path[:last])
		behind := beside && p.path[last] > e.path[last]
		within := beside && p.path[last] == e.path[last]
		itself := within && len(p.path) == len(e.path)
		switch {
		case e.call == "InsertAt" && (behind || within):
			p.path[last]++
		case e.call == "RemoveAt" && behind:
			p.path[last]--
		case e.call == "RemoveAt" && within, e.call == "SetKids" && within && !itself:
			continue
		case e.call == "SetWords" && itself:
			p.node.Text = e.text
		case e.call == "SetAttr" && itself:
			p.node.Attrs = attrsSetBy(p.node.Attrs, e.a)
		case e.call == "DropAttr" && itself:
			p.node.Attrs = slices.DeleteFunc(slices.Clone(p.node.Attrs), func(a impl.Attr) bool { return a.Name == e.text })
		}
		changed = append(changed, p)
	}
	if e.call == "InsertAt" {
		for _, p := range listed(tree(e.x)) {
			changed = append(changed, placed{p.node, append(slices.Clone(e.path), p.path[1:]...)})
		}
	}
	return append(changed, listed(e.kids, e.path...)...)
}

func attrsSetBy(attrs []impl.Attr, a impl.Attr) []impl.Attr {
	var set []impl.Attr
	found := false
	for _, b := range attrs {
		if b.Name == a.Name {
			b.Value, found = a.Value, true
		}
		set = append(set, b)
	}
	if !found {
		set = append(set, a)
	}
	return set
}

func treeOf(list []placed, above ...int) []impl.Node {
	var nodes []impl.Node
	for {
		path := append(slices.Clone(above), len(nodes))
		place := placeOf(list, path)
		if place < 0 {
			return nodes
		}
		nodes = append(nodes, holding(list[place].node, treeOf(list, path...)...))
	}
}

// checkEdit holds a call against what is to come of it. Its arguments have room behind their lists' ends: they stay as they are, and the answer shares no memory with them.
func checkEdit(t *testing.T, nodes []impl.Node, e edit, want []impl.Node, due int) {
	t.Helper()
	nodes, e = withRoom(nodes), e.withRoom()
	before, shownBefore := show(whole(nodes)), e.shown()
	got, code := e.of(nodes)
	if show(got) != show(want) || code != due {
		t.Errorf("%.300s of %.300s = %.300s, %d, want %.300s, %d", shownBefore, show(nodes), show(got), code, show(want), due)
	}
	if show(whole(nodes)) != before || e.shown() != shownBefore {
		t.Errorf("%.300s of %.300s changes an argument", shownBefore, before)
	}
	noListsShared(t, tree(element("made", got...), element("ahead", nodes...), e.x, element("kids", e.kids...)))
	spoil(got)
	if show(whole(nodes)) != before || e.shown() != shownBefore {
		t.Errorf("the answer of %.300s of %.300s shares memory with an argument", shownBefore, before)
	}
}

// checkMade takes what comes of an edit in brief, told by hand, and holds it against the second reading, too.
func checkMade(t *testing.T, nodes []impl.Node, e edit, want string) {
	t.Helper()
	made, code := editedBy(nodes, e)
	if brief(made) != want || code != impl.OK {
		t.Errorf("by the second reading %.300s of %.300s is %.300s, %d, by hand %.300s", e.shown(), brief(nodes), brief(made), code, want)
	}
	checkEdit(t, nodes, e, made, impl.OK)
}

// checkEditCode takes a code told by hand: beside ErrSame the tree is as it was.
func checkEditCode(t *testing.T, nodes []impl.Node, e edit, due int) {
	t.Helper()
	made, code := editedBy(nodes, e)
	if code != due {
		t.Errorf("by the second reading %.300s of %.300s has code %d, by hand %d", e.shown(), show(nodes), code, due)
	}
	var left []impl.Node
	if due == impl.ErrSame {
		left = nodes
	}
	if show(made) != show(left) {
		t.Errorf("by the second reading %.300s of %.300s is %.300s", e.shown(), show(nodes), show(made))
	}
	checkEdit(t, nodes, e, left, due)
}
