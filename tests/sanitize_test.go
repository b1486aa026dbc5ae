package tests

import (
	"slices"
	"strings"
	"testing"

	"loop.example/g00788/impl"
)

// A leftover is a tree, sanitized by a configuration of the notation, and what is left, in brief.
type leftover struct {
	told  string
	nodes []impl.Node
	want  string
}

// checkLeftovers holds what is told by hand against the second reading, too.
func checkLeftovers(t *testing.T, list []leftover) {
	t.Helper()
	for _, v := range list {
		want := sanitizedBy(v.nodes, config(v.told))
		if brief(want) != v.want {
			t.Errorf("by the second reading %s leaves of %s %s, by hand %s", v.told, brief(v.nodes), brief(want), v.want)
		}
		checkLeft(t, v.nodes, config(v.told), want)
	}
}

func TestTextsAndCommentsLeft(t *testing.T) {
	for _, text := range []string{"x", "<script>", "a--b", "-->", "\x00\xff", "&lt;", strings.Repeat("<", 120)} {
		for _, c := range rightConfigs() {
			checkLeft(t, tree(words(text)), c, tree(words(text)))
			checkLeft(t, tree(words(text), words(text)), c, tree(words(text), words(text)))
		}
	}
	for text, stays := range map[string]bool{
		"": true, "x": true, "a-b": true, " - ": true, "&lt;script&gt;": true, "\x00\xff\n": true, "!": true, "é": true, strings.Repeat("x", 120): true, strings.Repeat("a-", 59) + "b": true,
		"-": false, "--": false, "-a": false, "a-": false, "a--b": false, ">": false, "->": false, "-->": false, "<": false, "a<b": false, "a>b": false, "<!--": false, "--!>": false, strings.Repeat("-", 120): false,
	} {
		for _, c := range rightConfigs() {
			left := tree(words("a"), words("b"))
			if stays && c.Comments {
				left = tree(words("a"), comment(text), words("b"))
			}
			checkLeft(t, tree(words("a"), comment(text), words("b")), c, left)
		}
		for _, space := range []int{0, 1, 2} {
			within := tree(inSpace(space, "p", inSpace(space, "i", comment(text), comment("x"))))
			left := copied(within)
			if !stays {
				left[0].Kids[0].Kids = tree(comment("x"))
			}
			checkLeft(t, within, config("comments"), left)
			checkLeft(t, within, config("drop:id"), tree(inSpace(space, "p", inSpace(space, "i"))))
		}
	}
}

func TestUnwrappedElements(t *testing.T) {
	b := func(kids ...impl.Node) impl.Node { return element("b", kids...) }
	checkLeftovers(t, []leftover{
		{"unwrap:b", nil, ""},
		{"unwrap:b", tree(b()), ""},
		{"unwrap:b", tree(b(words("a"))), `"a"`},
		{"unwrap:b", tree(words("x"), b(words("y")), words("z")), `"x" "y" "z"`},
		{"unwrap:b", tree(words("x"), b(words("a"), b(words("c"), b(), b(words("d"))), words("e")), words("y")), `"x" "a" "c" "d" "e" "y"`},
		{"unwrap:b", tree(element("p", b(element("i", b(words("a")), words("c"))), words("d"))), `p[i["a" "c"] "d"]`},
		{"unwrap:b", nested(10), ""},
		{"unwrap:b", nested(9, words("deep"), words("deep")), `"deep" "deep"`},
		{"unwrap:b", nested(8, element("i", words("deep"))), `i["deep"]`},
		{"unwrap:b", tree(withAttrs(b(withAttrs(element("i"), "id", "x", "onclick", "y")), "id", "z")), `i id="x"[]`},
		{"unwrap:b,i", tree(b(element("i", b(element("i", words("a")), words("c")))), element("i"), words("d")), `"a" "c" "d"`},
		{"unwrap:b", tree(b(words("a"), comment("c"), element("br"))), `"a" br[]`},
		{"unwrap:b comments", tree(b(words("a"), comment("c"), comment("--"), element("br"))), `"a" !"c" br[]`},
		{"unwrap:b remove:i", tree(b(element("i", words("x")), element("u", words("y")), element("i", b(words("z"))))), `u["y"]`},
		{"unwrap:b remove:i", tree(element("i", b(words("x"))), b(element("i", words("y"), b(words("z"))))), ""},
		{"unwrap:b allow:p", tree(b(element("p", words("x"), b(words("y"), element("i", words("z"))))), element("i", b(element("p")))), `p["x" "y"]`},
		{"unwrap:b allow:", tree(b(words("x"), element("p", words("y")), b(words("z")))), `"x" "z"`},
		{"unwrap:svg/b", tree(b(words("x")), inSpace(1, "b", words("y")), inSpace(2, "b", words("z"))), `b["x"] "y" math/b["z"]`},
		{"unwrap:b,math/b", tree(b(inSpace(1, "b", inSpace(2, "b", b(words("x"))), words("y")))), `svg/b["x" "y"]`},
		{"unwrap:svg/svg", tree(inSpace(1, "svg", inSpace(1, "g", words("x")), inSpace(1, "style", words("<b>")))), `svg/g["x"] svg/style["<b>"]`},
		{"unwrap:br,img", tree(words("x"), element("br"), withAttrs(element("img"), "src", "x"), words("y")), `"x" "y"`},
		{"unwrap:style", tree(element("style"), element("style", words("a"), words("<b>")), element("style", words("c"))), `"a" "<b>" "c"`},
		{"unwrap:xmp comments", tree(element("p", element("xmp", words("<"), words("</xmp>")))), `p["<" "</xmp>"]`},
		{"unwrap:script,iframe,object,embed,frame,base,use", tree(element("script", words("a")), element("iframe", words("b")), element("object", words("c"), element("p")), element("embed"), element("frame", element("i")), element("base"), element("use", words("d"))), ""},
		{"unwrap:script,svg/use,math/object", tree(inSpace(1, "use", words("a"), inSpace(1, "g")), inSpace(2, "object", words("b")), inSpace(1, "script", words("c")), words("d")), `"d"`},
		{"unwrap:b", tree(b(element("script", words("x")), inSpace(1, "use", b(words("y"))), words("z"))), `"z"`},
		{"unwrap:b", tree(b(element("style", words("x")), element("style", words("<")), words("z"))), `style["x"] "z"`},
	})
}

// TestTextsSideBySide are not put together, however short they are.
func TestTextsSideBySide(t *testing.T) {
	checkLeftovers(t, []leftover{
		{"unwrap:b", tree(words("a"), element("b", words("b")), words("c")), `"a" "b" "c"`},
		{"unwrap:b", tree(element("b", words("a"), words("b")), element("b", words("c")), element("b", words("d"))), `"a" "b" "c" "d"`},
		{"unwrap:b", tree(element("p", words("<scr"), element("b", words("ipt>")))), `p["<scr" "ipt>"]`},
		{"remove:b", tree(words("a"), element("b", words("b")), words("c")), `"a" "c"`},
		{"", tree(words("a"), comment("b"), words("c"), element("script"), words("d")), `"a" "c" "d"`},
		{"", tree(element("style", words("a"), words("b"))), `style["a" "b"]`},
	})
	sixty := words(strings.Repeat("x", 60))
	checkLeft(t, tree(sixty, element("b", sixty), sixty), config("unwrap:b"), tree(sixty, sixty, sixty))
	checkLeft(t, repeated(element("b", words("x")), 30), config("unwrap:b"), repeated(words("x"), 30))
}

func TestElementsThatGo(t *testing.T) {
	p := func(space int) impl.Node { return inSpace(space, "p", words("x"), inSpace(space, "a")) }
	three := tree(p(0), p(1), p(2))
	checkLeftovers(t, []leftover{
		{"", three, `p["x" a[]] svg/p["x" svg/a[]] math/p["x" math/a[]]`},
		{"allow:p,a", three, `p["x" a[]]`},
		{"allow:svg/p,a", three, `svg/p["x"]`},
		{"allow:math/p,math/a,svg/a", three, `math/p["x" math/a[]]`},
		{"allow:p,svg/p,math/p", three, `p["x"] svg/p["x"] math/p["x"]`},
		{"allow:a,svg/a,math/a", three, ""},
		{"allow:", three, ""},
		{"remove:p", three, `svg/p["x" svg/a[]] math/p["x" math/a[]]`},
		{"remove:svg/p,math/a", three, `p["x" a[]] math/p["x"]`},
		{"remove:p,svg/p,math/p", three, ""},
		{"unwrap:p", three, `"x" a[] svg/p["x" svg/a[]] math/p["x" math/a[]]`},
		{"unwrap:svg/p remove:math/p", three, `p["x" a[]] "x" svg/a[]`},
		{"remove:p", nested(8, element("p", words("x"))), strings.Repeat("b[", 8) + strings.Repeat("]", 8)},
		{"remove:b", nested(8, element("p", words("x"))), ""},
		{"remove:b", tree(words("x"), element("b", element("p", words("y"), element("b"))), element("p", element("b", words("z")), words("w"))), `"x" p["w"]`},
		{"allow:p,ul,li", tree(element("ul", element("li", words("a")), element("p", element("br"), words("b")), element("b", element("li")))), `ul[li["a"] p["b"]]`},
		{"allow:br,hr", tree(element("br"), element("hr"), inSpace(1, "br"), element("img")), `br[] hr[]`},
	})
	for _, name := range strings.Fields(bannedNames) {
		for space := range 3 {
			x := inSpace(space, name)
			if !(space == 0 && among("embed base", name)) {
				x.Kids = tree(words("x"))
			}
			told := []string{"", "svg/", "math/"}[space] + name
			for _, c := range []string{"", "allow:X", "allow:X+href attrs:", "remove:X", "unwrap:X", "unwrap:p allow:X", "comments"} {
				c = strings.ReplaceAll(c, "X", told)
				checkLeft(t, tree(x, words("y")), config(c), tree(words("y")))
				checkLeft(t, tree(words("y"), withAttrs(x, "href", "z")), config(c), tree(words("y")))
			}
			checkLeft(t, tree(inSpace(1, "g", inSpace(2, "mi", x), x)), config("comments"), tree(inSpace(1, "g", inSpace(2, "mi"))))
		}
	}
}

func TestRawElementsLeft(t *testing.T) {
	for _, name := range []string{"style", "xmp"} {
		for _, told := range []string{"", "allow:X,svg/X,math/X", "remove:p", "comments", "unwrap:b drop:id"} {
			told = strings.ReplaceAll(told, "X", name)
			stays := func(kids ...impl.Node) {
				t.Helper()
				for _, space := range []int{0, 1, 2} {
					nodes := tree(words("a"), inSpace(space, name, kids...), words("b"))
					checkLeft(t, nodes, config(told), nodes)
				}
			}
			goes := func(kids ...impl.Node) {
				t.Helper()
				checkLeft(t, tree(words("a"), element(name, kids...), words("b")), config(told), tree(words("a"), words("b")))
				for _, space := range []int{1, 2} {
					nodes := tree(inSpace(space, name, kids...), words("b"))
					checkLeft(t, nodes, config(told), nodes)
				}
			}
			stays()
			stays(words("x"))
			stays(words("a>b"), words("&lt;script&gt;"), words("--"))
			stays(words("\x00\xff"), words("/"+name+">"))
			goes(words("<"))
			goes(words("a<b"))
			goes(words("<x"), words("y"), words("z"))
			goes(words("x"), words("y<"), words("z"))
			goes(words("x"), words("y"), words("z<z"))
			goes(words("</" + name + "><script>"))
			goes(words(strings.Repeat("x", 119)+"<"), words(strings.Repeat("x", 120)))
			goes(words("x"), words(strings.Repeat("<", 120)))
		}
	}
	checkLeftovers(t, []leftover{
		{"", tree(withAttrs(element("style", words("x")), "id", "<", "onclick", "y")), `style id="<"["x"]`},
		{"", tree(inSpace(1, "style", element("style", words("<")), words("<"), element("b", words("<")))), `svg/style["<" b["<"]]`},
		{"", tree(inSpace(2, "xmp", element("xmp", words(">")), inSpace(2, "xmp", words("<")))), `math/xmp[xmp[">"] math/xmp["<"]]`},
		{"", tree(element("p", words("<")), element("title", words("<"), words("</title>"))), `p["<"] title["<" "</title>"]`},
		{"allow:p", tree(element("style", words("x")), element("xmp")), ""},
		{"remove:style", tree(element("style", words("x")), element("xmp"), inSpace(1, "style", words("<"))), `xmp[] svg/style["<"]`},
		{"allow:style,script,iframe", tree(element("style", words("x")), element("script", words("x")), element("iframe")), `style["x"]`},
		{"remove:svg/style", tree(inSpace(1, "style", words("x")), element("style", words("x"))), `style["x"]`},
	})
}

// TestAttrsLeft has attributes of the same names on elements that differ.
func TestAttrsLeft(t *testing.T) {
	x := func(space int, name string) impl.Node {
		return withAttrs(inSpace(space, name), "id", "1", "href", "/x", "onclick", "y", "data-", "2", "data-x", "3", "on", "4")
	}
	bad := withAttrs(element("a"), "href", "javascript:x", "src", " JAVA\nscript:", "title", "javascript:x", "action", "x:javascript:", "xlink-href", "\x01javascript:", "formaction", "")
	checkLeftovers(t, []leftover{
		{"", tree(x(0, "p"), x(1, "p")), `p id="1" href="/x" data-="2" data-x="3" on="4"[] svg/p id="1" href="/x" data-="2" data-x="3" on="4"[]`},
		{"drop:id,data-x,on", tree(x(0, "p"), element("b", x(2, "i"))), `p href="/x" data-="2"[] b[math/i href="/x" data-="2"[]]`},
		{"drop:onclick,href", tree(x(0, "p")), `p id="1" data-="2" data-x="3" on="4"[]`},
		{"attrs:", tree(x(0, "p")), `p[]`},
		{"attrs: data", tree(x(0, "p"), x(1, "g")), `p data-x="3"[] svg/g data-x="3"[]`},
		{"attrs:data- data", tree(x(0, "p")), `p data-="2" data-x="3"[]`},
		{"attrs:id,onclick,on", tree(x(0, "p"), x(2, "p")), `p id="1" on="4"[] math/p id="1" on="4"[]`},
		{"attrs:on,data-x,id", tree(x(0, "p")), `p id="1" data-x="3" on="4"[]`},
		{"allow:p+href,b,svg/p+id attrs:on", tree(x(0, "p"), x(0, "b"), x(1, "p"), x(2, "p")), `p href="/x" on="4"[] b on="4"[] svg/p id="1" on="4"[]`},
		{"allow:p+onclick,b+data- attrs:", tree(x(0, "p"), x(0, "b")), `p[] b data-="2"[]`},
		{"allow:p,b+href+id attrs: data unwrap:i", tree(element("i", x(0, "b")), x(0, "p")), `b id="1" href="/x" data-x="3"[] p data-x="3"[]`},
		{"", tree(bad), `a title="javascript:x" action="x:javascript:" formaction=""[]`},
		{"attrs:href,src,title,xlink-href", tree(bad), `a title="javascript:x"[]`},
		{"allow:a+href+src+action+title attrs:", tree(bad), `a title="javascript:x" action="x:javascript:"[]`},
		{"drop:title", tree(inSpace(1, "g", bad)), `svg/g[a action="x:javascript:" formaction=""[]]`},
		{"", tree(withAttrs(element("br"), "onclick", "x"), withAttrs(element("p", words("y")), "onx", "")), `br[] p["y"]`},
		{"", tree(withAttrs(element("b"), "onclick", "x", "a", "1", "onload", "y", "b", "2", "src", "JavaScript:", "c", "3")), `b a="1" b="2" c="3"[]`},
		{"", tree(withAttrs(element("b"), "a", "1", "b", "<script>", "c", "\"", "d", "\xff", "e", "&lt;", "f", strings.Repeat("v", 40))), `b a="1" b="<script>" c="\"" d="\xff" e="&lt;" f="` + strings.Repeat("v", 40) + `"[]`},
	})
	c := impl.DefaultConfig()
	link := withAttrs(element("a", words("x")), "href", "/x", "class", "c", "src", "y")
	checkLeft(t, tree(link, withAttrs(element("p"), "href", "/x", "title", "t")), c, tree(withAttrs(element("a", words("x")), "href", "/x", "class", "c"), withAttrs(element("p"), "title", "t")))
	checkLeft(t, tree(inSpace(1, "a", words("x")), element("h1", comment("x"))), c, tree(element("h1")))
}

// TestPermittedTrees takes one that is permitted, and what differs from it in one thing that is not.
func TestPermittedTrees(t *testing.T) {
	c := config("allow:p+href,b,style,svg/svg,br attrs:id comments data")
	right := tree(withAttrs(element("p", words("<x>"), comment("c"), element("b", element("br"))), "id", "1", "href", "/x", "data-x", "2"), inSpace(1, "svg", words("y")), element("style", words("z")), comment(""))
	checkLeft(t, right, c, right)
	change := func(how func(nodes []impl.Node)) {
		t.Helper()
		nodes := copied(right)
		how(nodes)
		if yes, code := impl.Permitted(nodes, c); yes || code != impl.OK {
			t.Errorf("Permitted(%s) = %v, %d", brief(nodes), yes, code)
		}
		checkLeft(t, nodes, c, sanitizedBy(nodes, c))
	}
	for _, a := range []impl.Attr{{Name: "onclick"}, {Name: "class", Value: "1"}, {Name: "data-"}, {Name: "src", Value: "x"}} {
		change(func(nodes []impl.Node) { nodes[0].Attrs = append(nodes[0].Attrs, a) })
		change(func(nodes []impl.Node) { nodes[0].Attrs[0] = a })
		change(func(nodes []impl.Node) { nodes[0].Kids[2].Kids[0].Attrs = []impl.Attr{a} })
		change(func(nodes []impl.Node) { nodes[2].Attrs = []impl.Attr{a} })
	}
	change(func(nodes []impl.Node) { nodes[0].Attrs[1].Value = "javascript:" })
	change(func(nodes []impl.Node) { nodes[0].Kids[2].Attrs = []impl.Attr{{Name: "href"}} })
	for _, text := range []string{"-", "a--b", "<", "a>"} {
		change(func(nodes []impl.Node) { nodes[3].Text = text })
		change(func(nodes []impl.Node) { nodes[0].Kids[1].Text = text })
	}
	for _, x := range []impl.Node{element("i"), inSpace(1, "b"), inSpace(2, "p", words("x")), element("svg"), element("script"), element("style", words("<")), element("br2"), comment(">")} {
		change(func(nodes []impl.Node) { nodes[3] = x })
		change(func(nodes []impl.Node) { nodes[0].Kids[2].Kids[0] = x })
		change(func(nodes []impl.Node) { nodes[1].Kids = append(nodes[1].Kids, x) })
	}
	change(func(nodes []impl.Node) { nodes[2].Kids[0].Text = "<" })
	for told, nodes := range map[string][]impl.Node{
		"": nil, "comments": tree(comment("x")), "allow:": tree(words("x")), "allow:p": tree(element("p", words("x"))), "unwrap:b": tree(element("i")), "attrs:": tree(element("i")), "remove:b": tree(inSpace(1, "b")),
	} {
		checkLeft(t, nodes, config(told), nodes)
	}
}

func checkRemoved(t *testing.T, told string, nodes []impl.Node, want int) {
	t.Helper()
	if n, code := impl.Removed(nodes, config(told)); n != want || code != impl.OK {
		t.Errorf("Removed(%.200s) by %q = %d, %d, want %d", brief(nodes), told, n, code, want)
	}
}

func TestHowManyAreRemoved(t *testing.T) {
	x := tree(element("p", words("a"), element("b", words("c"), comment("d")), element("br")), words("e"), inSpace(1, "svg", inSpace(1, "b", words("f"))))
	for told, want := range map[string]int{
		"": 1, "comments": 0, "allow:": 9, "allow: comments": 9, "allow:p,b": 5, "allow:p,b,br,svg/svg,svg/b": 1, "allow:svg/svg": 8, "remove:p": 6, "remove:svg/svg": 4, "remove:svg/b comments": 2, "remove:p,svg/svg": 9,
		"unwrap:p": 2, "unwrap:b": 2, "unwrap:p,b comments": 2, "unwrap:p,b,br,svg/svg,svg/b": 6, "unwrap:p allow:b,svg/b": 6, "attrs:": 1, "drop:id": 1,
	} {
		checkRemoved(t, told, x, want)
	}
	checkRemoved(t, "", nil, 0)
	checkRemoved(t, "allow:", repeated(element("b"), 60), 60)
	checkRemoved(t, "allow:", repeated(words("b"), 60), 0)
	checkRemoved(t, "unwrap:b", nested(10), 10)
	checkRemoved(t, "unwrap:b", nested(9, words("x")), 9)
	checkRemoved(t, "", nested(9, element("script")), 1)
	checkRemoved(t, "", tree(element("style", repeated(words("x<"), 59)...)), 60)
	checkRemoved(t, "unwrap:style", tree(element("style", repeated(words("x<"), 59)...)), 1)
	checkRemoved(t, "", tree(withAttrs(element("p"), "onclick", "x")), 0)
}

// TestWhatIsLeftOfAnyTrees holds Sanitize, Permitted and Removed against the second reading.
func TestWhatIsLeftOfAnyTrees(t *testing.T) {
	configs := slices.Concat(rightConfigs(), anyConfigs(120), wideConfigs())
	told := map[string]int{}
	check := func(nodes []impl.Node, c impl.Config) {
		t.Helper()
		want := sanitizedBy(nodes, c)
		checkLeft(t, nodes, c, want)
		if len(nodes) > 0 {
			told[map[bool]string{true: "permitted", false: "changed"}[show(want) == show(nodes)]]++
			for _, p := range listed(nodes) {
				told[fateBy(p.node, c)]++
			}
		}
	}
	for i, nodes := range slices.Concat(rightTrees(), grownTrees(200), brokenTrees(200), dressedTrees(600)) {
		for k := range 9 {
			check(nodes, configs[(i*9+k)%len(configs)])
		}
		check(nodes, impl.DefaultConfig())
	}
	for _, sort := range []string{"permitted", "changed", "stays", "goes", "unwrapped"} {
		if told[sort] < 500 {
			t.Error("too few of one sort", told)
		}
	}
}

// TestWhatIsLeftIsNewMemory writes into answers, looks at the arguments, and asks again.
func TestWhatIsLeftIsNewMemory(t *testing.T) {
	configs := slices.Concat(wideConfigs(), rightConfigs(), anyConfigs(40))
	for i, x := range slices.Concat(rightTrees(), grownTrees(100), dressedTrees(200)) {
		x, c := withRoom(x), configWithRoom(configs[i%len(configs)])
		before, configBefore := show(whole(x)), showConfig(wholeConfig(c))
		left, _ := impl.Sanitize(x, c)
		noListsShared(t, tree(element("x", left...), element("x", x...)))
		shownAhead := show(left)
		spoil(left)
		impl.Permitted(x, c)
		impl.Removed(x, c)
		path, _ := impl.FirstHarm(x)
		pathAhead := slices.Clone(path)
		for k := range path {
			path[k] = -1
		}
		if show(whole(x)) != before || showConfig(wholeConfig(c)) != configBefore {
			t.Errorf("an answer shares memory with tree %d", i)
		}
		left, _ = impl.Sanitize(x, c)
		if path, _ = impl.FirstHarm(x); show(left) != shownAhead || !slices.Equal(path, pathAhead) {
			t.Errorf("an answer of tree %d changed: %.200s, %v", i, show(left), path)
		}
	}
}
