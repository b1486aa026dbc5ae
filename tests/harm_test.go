package tests

import (
	"slices"
	"strings"
	"testing"

	"loop.example/g00788/impl"
)

// harms have one each, by itself.
func harms() []impl.Node {
	list := []impl.Node{withAttrs(element("p"), "a", "1", "b", "2", "c", "3", "d", "4", "e", "5", "onclick", ""), withAttrs(element("p"), "title", "javascript:", "href", "javascript:")}
	for space := range 3 {
		for _, name := range strings.Fields(bannedNames) {
			list = append(list, inSpace(space, name), withAttrs(inSpace(space, name), "id", "x"))
		}
		for _, name := range []string{"onclick", "onx", "on-", "on1", "onabcdefghij"} {
			list = append(list, withAttrs(inSpace(space, "p"), name, ""), withAttrs(inSpace(space, "br"), "id", "x", name, "y"))
		}
		for _, name := range strings.Fields("href src action formaction xlink-href") {
			for _, value := range []string{"javascript:", "JavaScript:x", " \x00\tjavascript:", "java\nscript:\xff"} {
				list = append(list, withAttrs(inSpace(space, "a"), name, value), withAttrs(inSpace(space, "style"), "id", "x", name, value, "title", "y"))
			}
		}
	}
	return list
}

// harmlessNodes come near to harm.
func harmlessNodes() []impl.Node {
	list := []impl.Node{words("<script>"), words("javascript:"), words("onclick"), comment("x"), comment("script"), element("p"), element("br"), element("style", words("javascript:"))}
	for space := range 3 {
		for _, name := range strings.Fields("scripts objects embeds framer bases uses frameset applet a svg math style xmp onclick onx href src") {
			list = append(list, inSpace(space, name))
		}
		for _, a := range []impl.Attr{{Name: "on"}, {Name: "o"}, {Name: "no"}, {Name: "aonclick"}, {Name: "href"}, {Name: "href", Value: "/x"}, {Name: "src", Value: "javascript"}, {Name: "src", Value: "xjavascript:"}, {Name: "action", Value: "java script:"}, {Name: "title", Value: "javascript:x"}, {Name: "hrefs", Value: "javascript:x"}, {Name: "xlink", Value: "javascript:x"}, {Name: "data-href", Value: "javascript:x"}, {Name: "script"}, {Name: "id", Value: "onclick=x"}} {
			x := inSpace(space, "p")
			x.Attrs = []impl.Attr{a}
			list = append(list, x)
		}
	}
	return list
}

// TestHarmByItself has each one at the top, behind others, and deep within, in each space.
func TestHarmByItself(t *testing.T) {
	for _, x := range harms() {
		checkHarm(t, tree(x), []int{0}, false)
		checkHarm(t, tree(words("x"), comment("y"), element("p", words("z")), x), []int{3}, false)
		checkHarm(t, tree(x, element("p")), []int{0}, false)
		checkHarm(t, nested(9, x), make([]int, 10), false)
		for space := range 3 {
			checkHarm(t, tree(inSpace(space, "p"), inSpace(space, "g", element("br"), inSpace(space, "i", words("x"), comment("y"), x))), []int{1, 1, 2}, false)
		}
		checkHarm(t, append(repeated(words("x"), 59), x), []int{59}, false)
	}
}

func TestNoHarm(t *testing.T) {
	checkHarm(t, nil, nil, true)
	checkHarm(t, tree(), nil, true)
	for _, x := range harmlessNodes() {
		checkHarm(t, tree(x), nil, true)
		checkHarm(t, tree(words("x"), x, element("p", x), comment("")), nil, true)
		checkHarm(t, nested(8, x), nil, true)
		for space := range 3 {
			checkHarm(t, tree(inSpace(space, "g", inSpace(space, "i", x, words("x")))), nil, true)
		}
	}
}

// TestFirstOfManyHarms has several, one within another, one behind another, and some that are met later though they lie less deep.
func TestFirstOfManyHarms(t *testing.T) {
	use, bad := inSpace(1, "use"), withAttrs(element("i"), "onx", "y")
	for _, v := range []struct {
		nodes []impl.Node
		path  []int
	}{
		{tree(use, bad), []int{0}},
		{tree(bad, use, use), []int{0}},
		{tree(words("x"), use, words("y"), bad), []int{1}},
		{tree(inSpace(1, "use", use, bad), use), []int{0}},
		{tree(element("p", words("x"), use), use), []int{0, 1}},
		{tree(element("p", element("p", words("x"), bad), use), bad), []int{0, 0, 1}},
		{tree(element("p"), element("p", element("p"), element("p", element("p"), use), use), use), []int{1, 1, 1}},
		{tree(element("p", element("p", words("x")), comment("y")), use), []int{1}},
		{tree(element("object", element("p", bad))), []int{0}},
		{tree(element("p", withAttrs(element("a", use), "href", "javascript:"), use)), []int{0, 0}},
		{tree(element("p", element("i"), element("i"), element("i", use, use)), bad), []int{0, 2, 0}},
		{nested(8, use, inSpace(1, "g", use)), make([]int, 9)},
		{append(nested(9, words("x")), use), []int{1}},
		{tree(element("style", words("<script>")), comment("--"), use), []int{2}},
		{tree(element("script", words("<")), bad), []int{0}},
	} {
		checkHarm(t, v.nodes, v.path, false)
	}
}

// TestWhatIsHarmlessButNotClean has comments and raw elements that could come to mean more.
func TestWhatIsHarmlessButNotClean(t *testing.T) {
	for _, text := range []string{"-", "--", "a--b", "-a", "a-", ">", "<", "-->", "<script>", "--!>", strings.Repeat("-", 120), "x>", "\xff<"} {
		checkHarm(t, tree(comment(text)), nil, false)
		checkHarm(t, tree(comment("x"), element("p", words("x")), comment(text)), nil, false)
		checkHarm(t, nested(9, comment(text)), nil, false)
		for space := range 3 {
			checkHarm(t, tree(inSpace(space, "g", comment(""), comment(text), comment(""))), nil, false)
		}
	}
	for _, text := range []string{"", "x", "a-b", "&lt;", "\x00\xff", strings.Repeat("x", 120)} {
		checkHarm(t, tree(comment(text)), nil, true)
		checkHarm(t, tree(inSpace(1, "g", comment(text))), nil, true)
	}
	for _, name := range []string{"style", "xmp"} {
		for _, kids := range [][]impl.Node{tree(words("<")), tree(words("a<"), words("x")), tree(words("x"), words("<"), words("y")), tree(words("x"), words("y"), words("<b")), tree(words(strings.Repeat("x", 119) + "<"))} {
			checkHarm(t, tree(element(name, kids...)), nil, false)
			checkHarm(t, nested(8, element(name, kids...)), nil, false)
			checkHarm(t, tree(inSpace(1, "g", element(name, words("x")), element(name, kids...), element(name))), nil, false)
			checkHarm(t, tree(inSpace(1, name, kids...)), nil, true)
			checkHarm(t, tree(inSpace(2, name, kids...)), nil, true)
			checkHarm(t, tree(element("p", kids...)), nil, true)
			checkHarm(t, tree(inSpace(2, name, element("b", kids...), element("title", kids...))), nil, true)
		}
		for _, kids := range [][]impl.Node{nil, tree(words("x")), tree(words(">"), words("&lt;"), words("\xff"))} {
			checkHarm(t, tree(element(name, kids...)), nil, true)
			checkHarm(t, tree(words("<"), withAttrs(element(name, kids...), "title", "<")), nil, true)
		}
	}
}

// TestHarmOfAnyTrees holds the three calls against the second reading.
func TestHarmOfAnyTrees(t *testing.T) {
	told := map[string]int{}
	for _, nodes := range slices.Concat(rightTrees(), grownTrees(400), brokenTrees(400), dressedTrees(800)) {
		path, harm := firstBy(nodes, harmBy)
		_, unclean := firstBy(nodes, uncleanBy)
		checkHarm(t, nodes, path, !unclean)
		checkHarm(t, withRoom(nodes), path, !unclean)
		if harm {
			told["harm"]++
		} else if unclean {
			told["harmless"]++
		} else if len(nodes) > 0 {
			told["clean"]++
		}
	}
	if told["harm"] < 150 || told["harmless"] < 50 || told["clean"] < 150 {
		t.Error("too few of one sort", told)
	}
}

// TestHarmOfWhatIsNoTree has such with harm, and without.
func TestHarmOfWhatIsNoTree(t *testing.T) {
	check := func(i int, x []impl.Node, want int) {
		t.Helper()
		path, code := impl.FirstHarm(x)
		if len(path) != 0 || code != want || impl.Harmless(x) || impl.Clean(x) {
			t.Errorf("wrong tree %d: %v, %d, %v, %v, want code %d", i, path, code, impl.Harmless(x), impl.Clean(x), want)
		}
	}
	for i, x := range append(wrongTrees(), hugeTrees()...) {
		check(i, x, impl.ErrBad)
		if len(x) < impl.MaxList {
			check(i, append(tree(element("script")), x...), impl.ErrBad)
			check(i, append(slices.Clip(x), element("script")), impl.ErrBad)
		}
	}
	for i, x := range longTrees() {
		check(i, x, impl.ErrLong)
	}
	check(-1, repeated(element("script"), impl.MaxList), impl.ErrBad)
	check(-1, repeated(element("script"), impl.MaxList+1), impl.ErrLong)
}
