package tests

import (
	"math/rand"
	"slices"
	"strings"
	"testing"

	"loop.example/g00788/impl"
)

func checkTreeOf(t *testing.T, call, s string, got []impl.Node, code int, want string) {
	t.Helper()
	if code != impl.OK || !impl.TreeOK(got) || brief(got) != want {
		t.Errorf("%s(%.300q) = %s, %d, want %s", call, s, show(got), code, want)
	}
}

// checkTrees takes texts and what brief tells of their trees.
func checkTrees(t *testing.T, table map[string]string) {
	t.Helper()
	for s, want := range table {
		got, code := impl.Build(s)
		checkTreeOf(t, "Build", s, got, code, want)
		for _, context := range []string{"div", "a", "svg", "math", "title"} {
			got, code := impl.BuildIn(s, context)
			checkTreeOf(t, "BuildIn "+context, s, got, code, want)
		}
	}
}

func TestTreesOfTexts(t *testing.T) {
	checkTrees(t, map[string]string{
		"":                           ``,
		"a":                          `"a"`,
		"a&lt;b&amp;gt;":             `"a<b&gt;"`,
		"<b>":                        `b[]`,
		"<b></b>":                    `b[]`,
		"<b>a":                       `b["a"]`,
		"<B>a</B >b":                 `b["a"] "b"`,
		"<a><b><i>x":                 `a[b[i["x"]]]`,
		"<a><b></b><i></i></a>":      `a[b[] i[]]`,
		"x<a>y<b>z</b>w</a>v":        `"x" a["y" b["z"] "w"] "v"`,
		`<a id=x ID=y on="&lt;'">b`:  `a id="x" on="<'"["b"]`,
		"<a x_y=1 b c='d' / >":       `a b="" c="d"[]`,
		"\xff<b>\x00</b>\n":          `"\xff" b["\x00"] "\n"`,
		"<b":                         ``,
		"a<b":                        `"a"`,
		"<a href='x><b></b>":         ``,
		"<div><b>a</b><p>b</div>c":   `div[b["a"] p["b"]] "c"`,
		"<table><tr><td>a</table>b":  `table[tr[td["a"]]] "b"`,
		"<x-1><y2>a</x-1>":           `x-1[y2["a"]]`,
		"<onclick>a</onclick>":       `onclick["a"]`,
		"<b onclick=x href=' j:'>":   `b onclick="x" href=" j:"[]`,
		"<h1>a<h1>b":                 `h1["a" h1["b"]]`,
		"<div>a<div>b":               `div["a" div["b"]]`,
		"<title><b></title>a</b>":    `title[b[]] "a"`,
		"<abcdefghijklm>a<b_>b</b_>": `"ab"`,
	})
}

func TestImpliedEndsOfTexts(t *testing.T) {
	checkTrees(t, map[string]string{
		"<p>a<p>b":                        `p["a"] p["b"]`,
		"<p>a<div>b</div>c</p>d":          `p["a"] div["b"] "cd"`,
		"<p><ul>":                         `p[] ul[]`,
		"<p><table>":                      `p[] table[]`,
		"<p><h1>":                         `p[] h1[]`,
		"<p><b><i><br><img><li><a><hr>":   `p[b[i[br[] img[] li[a[hr[]]]]]]`,
		"<p><b>a<p>b</b>c":                `p[b["a" p["b"]] "c"]`,
		"<p a=1><p a=2><p a=3>":           `p a="1"[] p a="2"[] p a="3"[]`,
		"<p/><p/>a":                       `p[] p["a"]`,
		"<li>a<li>b":                      `li["a"] li["b"]`,
		"<ul><li>a<li>b</ul>c":            `ul[li["a"] li["b"]] "c"`,
		"<ul><li><ul><li>a<li>b</ul><li>": `ul[li[ul[li["a"] li["b"]]] li[]]`,
		"<li><p>a<p>b<li>c":               `li[p["a"] p["b" li["c"]]]`,
		"<ul><li><p>a<p>b</p><li>c":       `ul[li[p["a"] p["b"]] li["c"]]`,
		"<p><li>a<li>b<p>c<p>d":           `p[li["a"] li["b" p["c"] p["d"]]]`,
		"<li><b>a<li>b":                   `li[b["a" li["b"]]]`,
		"<p>a<x_y><p>b":                   `p["a"] p["b"]`,
		"<p></b><p>":                      `p[] p[]`,
		"<p></p><p>":                      `p[] p[]`,
		"<p></p></p><b>":                  `p[] b[]`,
		"<p><!--a--><p>":                  `p[!"a"] p[]`,
		"<P><DIV><p><Div>":                `p[] div[p[] div[]]`,
	})
}

func TestSpacesOfTexts(t *testing.T) {
	checkTrees(t, map[string]string{
		"<svg>":                               `svg/svg[]`,
		"<math>":                              `math/math[]`,
		"<svg><g><a>b":                        `svg/svg[svg/g[svg/a["b"]]]`,
		"<math><mi>a</mi></math><mi>":         `math/math[math/mi["a"]] mi[]`,
		"<svg><math><g></math><g>":            `svg/svg[math/math[math/g[]] svg/g[]]`,
		"<math><svg><math><x></svg><y>":       `math/math[svg/svg[math/math[math/x[]]] math/y[]]`,
		"<b><svg></b><g>":                     `b[svg/svg[]] g[]`,
		"<svg></svg><g>":                      `svg/svg[] g[]`,
		"<svg></g><g>":                        `svg/svg[svg/g[]]`,
		"<SVG><G>":                            `svg/svg[svg/g[]]`,
		"<g><svg>":                            `g[svg/svg[]]`,
		"<svg><a><b>c</a>d":                   `svg/svg[svg/a[]] b["cd"]`,
		"<svg><g><p>a</svg>b":                 `svg/svg[svg/g[]] p["ab"]`,
		"<p><svg><g><p>a":                     `p[svg/svg[svg/g[]]] p["a"]`,
		"<p><svg><b>a<p>b":                    `p[svg/svg[] b["a" p["b"]]]`,
		"<li><svg><li>a":                      `li[svg/svg[]] li["a"]`,
		"<li><svg><p>a":                       `li[svg/svg[] p["a"]]`,
		"<math><svg><g><br>a":                 `math/math[svg/svg[svg/g[]]] br[] "a"`,
		"<div><math><mi><img>a":               `div[math/math[math/mi[]] img[] "a"]`,
		"<div><svg><h1><svg><i>a":             `div[svg/svg[] h1[svg/svg[] i["a"]]]`,
		"<svg><title><g>a</title>b":           `svg/svg[svg/title[svg/g["a"]] "b"]`,
		"<svg a=1><g b='2'/><G C=3>":          `svg/svg a="1"[svg/g b="2"[] svg/g c="3"[]]`,
		"<svg>a&lt;<!--b--><g>c":              `svg/svg["a<" !"b" svg/g["c"]]`,
		"<svg><ul><li>a<svg><li>b</ul>c":      `svg/svg[] ul[li["a" svg/svg[]] li["b"]] "c"`,
		"<math><mi/><svg/><g><table><math/>":  `math/math[math/mi[] svg/svg[] math/g[]] table[math/math[]]`,
		"<svg><div><math></div><svg><x></svg": `svg/svg[] div[math/math[]] svg/svg[svg/x[]]`,
	})
}

// followed tells an element of SpHtml that has begun, and words behind its tag.
func followed(name, text string) string {
	if slices.Contains(voids(), name) {
		return name + `[] "` + text + `"`
	}
	return name + `["` + text + `"]`
}

// TestBreakingOutOfTexts has each name that breaks out, and others, in foreign elements.
func TestBreakingOutOfTexts(t *testing.T) {
	for _, name := range breakers() {
		tag, html := "<"+name+">x", followed(name, "x")
		checkTrees(t, map[string]string{
			"<svg>" + tag:                    `svg/svg[] ` + html,
			"<svg><g><math><mi>" + tag:       `svg/svg[svg/g[math/math[math/mi[]]]] ` + html,
			"<a><math>" + tag:                `a[math/math[] ` + html + `]`,
			"<svg><a>" + tag + "</a>":        `svg/svg[svg/a[]] ` + html,
			"<a><svg></svg>" + tag:           `a[svg/svg[] ` + html + `]`,
			"<a><svg><g></a>" + tag:          `a[svg/svg[svg/g[]]] ` + html,
			"<svg></x>" + tag:                `svg/svg[] ` + html,
			"<svg><" + name + "/>x":          `svg/svg[] ` + html,
			"<svg/>" + tag:                   `svg/svg[] ` + html,
			"<math><x_y>" + tag + "</math>y": `math/math[] ` + followed(name, "xy"),
		})
	}
	for _, name := range staying() {
		space := "svg/"
		if name == "math" {
			space = "math/"
		}
		checkTrees(t, map[string]string{
			"<svg><" + name + ">x</" + name + ">y": `svg/svg[` + space + name + `["x"] "y"]`,
			"<svg><g><" + name + "/>x":             `svg/svg[svg/g[` + space + name + `[] "x"]]`,
		})
	}
}

func voids() []string { return strings.Fields("br hr img input meta link base embed") }

func raws() []string { return strings.Fields("style script xmp iframe") }

func TestVoidElementsOfTexts(t *testing.T) {
	for _, name := range tagMembers() {
		if slices.Contains(raws(), name) || name == "svg" || name == "math" {
			continue
		}
		html := followed(name, "x")
		checkTrees(t, map[string]string{"<" + name + ">x": html, "<" + name + "/>x": html, "<" + name + " / >x": html, "</" + name + "><" + name + ">x": html})
		if !slices.Contains(breakers(), name) {
			checkTrees(t, map[string]string{
				"<math><" + name + ">x</" + name + ">y": `math/math[math/` + name + `["x"] "y"]`,
				"<math><" + name + "/>x":                `math/math[math/` + name + `[] "x"]`,
			})
		}
	}
	checkTrees(t, map[string]string{
		"a<br>b</br>c":            `"a" br[] "bc"`,
		"<br><hr/><img id=1/>":    `br[] hr[] img id="1/"[]`,
		"<b><hr>a</hr>b</b>":      `b[hr[] "ab"]`,
		"<svg><hr>a</hr>b":        `svg/svg[svg/hr["a"] "b"]`,
		"<svg><hr/>a</hr>b":       `svg/svg[svg/hr[] "ab"]`,
		"<svg><link><meta>a":      `svg/svg[svg/link[svg/meta["a"]]]`,
		"<svg><hr><br>a</hr>":     `svg/svg[svg/hr[]] br[] "a"`,
		"<svg></svg><hr>a":        `svg/svg[] hr[] "a"`,
		"<p><hr>a<p>":             `p[hr[] "a"] p[]`,
		"<b/>a<i/>b":              `b["a" i["b"]]`,
		"<svg/>a<svg / >b":        `svg/svg[] "a" svg/svg["b"]`,
		"<math/><mi>":             `math/math[] mi[]`,
		"<svg><g/>a<g id=/>b":     `svg/svg[svg/g[] "a" svg/g id="/"["b"]]`,
		"<svg><g/></svg>a":        `svg/svg[svg/g[]] "a"`,
		"<svg><math/><g>a":        `svg/svg[math/math[] svg/g["a"]]`,
		"<svg><svg/></svg>a":      `svg/svg[svg/svg[]] "a"`,
		"<svg><b/>a":              `svg/svg[] b["a"]`,
		"<li/>a<li/>b":            `li["a"] li["b"]`,
		"<a/><a/>x</a></a>y":      `a[a["x"]] "y"`,
		"<svg><g x='/'/><g x/ >a": `svg/svg[svg/g x="/"[] svg/g x=""["a"]]`,
	})
}

func TestRawElementsOfTexts(t *testing.T) {
	for _, name := range raws() {
		tag, end := "<"+name+">", "</"+name+">"
		checkTrees(t, map[string]string{
			tag + "a<b>&lt;<!--c-->" + end + "d&lt;":   name + `["a<b>&lt;<!--c-->"] "d<"`,
			tag + end + "<b>":                          name + `[] b[]`,
			tag:                                        name + `[]`,
			tag + "<p>":                                name + `["<p>"]`,
			tag + "a</" + name:                         name + `["a</` + name + `"]`,
			tag + "a</" + name + "x>b":                 name + `["a</` + name + `x>b"]`,
			tag + "a</" + name + " ":                   name + `["a"]`,
			tag + "a</" + name + "/<b>":                name + `["a"]`,
			tag + "</" + name + "\n<b":                 name + `[]`,
			tag + "a</" + strings.ToUpper(name) + "/>": name + `["a"]`,
			"<" + name + "/>a<b>" + end + "c":          name + `["a<b>"] "c"`,
			"<" + name + " id=1>" + end + end + "c":    name + ` id="1"[] "c"`,
			tag + tag + end + end + "c":                name + `["` + tag + `"] "c"`,
			"<p>" + tag + "</p><p>" + end + "<p>":      `p[` + name + `["</p><p>"]] p[]`,
			"a" + tag + " " + end + "b":                `"a" ` + name + `[" "] "b"`,
			"<li>" + tag + "<li>" + end + "<li>":       `li[` + name + `["<li>"]] li[]`,
			"<svg>" + tag + "a<g>&lt;" + end + "b":     `svg/svg[svg/` + name + `["a" svg/g["<"]] "b"]`,
			"<math>" + tag + "<!--a--><" + name + "/>": `math/math[math/` + name + `[!"a" math/` + name + `[]]]`,
			"<svg><" + name + "/><g>" + end + "a":      `svg/svg[svg/` + name + `[] svg/g["a"]]`,
			"<svg>" + tag + "<p>" + tag + "<p>" + end:  `svg/svg[svg/` + name + `[]] p[` + name + `["<p>"]]`,
			"<svg></svg>" + tag + "<g>" + end:          `svg/svg[] ` + name + `["<g>"]`,
			"<svg/>" + tag + "<svg>" + end + "<g>":     `svg/svg[] ` + name + `["<svg>"] g[]`,
			end + "<b>" + end + "a":                    `b["a"]`,
			"<b>" + tag + "</b>" + end + "</b>a":       `b[` + name + `["</b>"]] "a"`,
			tag + "\xff\x00</" + name + "\xff>" + end:  name + `["\xff\x00</` + name + `\xff>"]`,
		})
	}
	checkTrees(t, map[string]string{
		"<style></xmp></style><xmp></style></xmp>a": `style["</xmp>"] xmp["</style>"] "a"`,
		"<style>a</style>b<style>c</style>":         `style["a"] "b" style["c"]`,
		"<style>a</style><style>b</style>":          `style["a"] style["b"]`,
		"<style_>a<b>":                              `"a" b[]`,
		"<title>a<b>c</title>":                      `title["a" b["c"]]`,
	})
}

func TestEndsInTexts(t *testing.T) {
	checkTrees(t, map[string]string{
		"</b>":                           ``,
		"</b>a</b>":                      `"a"`,
		"<b></i>a</b>b":                  `b["a"] "b"`,
		"<b><i><a>x</b>y</i>z</a>w":      `b[i[a["x"]]] "yzw"`,
		"<b><b><b>x</b>y</b>z</b>w</b>v": `b[b[b["x"] "y"] "z"] "wv"`,
		"<b><i><b><a>x</b>y</i>z":        `b[i[b[a["x"]] "y"] "z"]`,
		"<b><i><b>x</i>y</b>z":           `b[i[b["x"]] "y"] "z"`,
		"<p><svg><g>a</p>b":              `p[svg/svg[svg/g["a"]]] "b"`,
		"<a><svg><a>x</a>y</svg>z</a>w":  `a[svg/svg[svg/a["x"] "y"] "z"] "w"`,
		"<svg><a>x</svg>y</a>z":          `svg/svg[svg/a["x"]] "yz"`,
		"<a></A x='>'>b":                 `a[] "'>b"`,
		"<a></a/>b<a></a b>c":            `a[] "b" a[] "c"`,
		"<a></a":                         `a[]`,
		"<a></a_>b":                      `a["b"]`,
		"<ul><li>a</ul></li>b":           `ul[li["a"]] "b"`,
		"<div><p>a</div>b</p>c":          `div[p["a"]] "bc"`,
		"<div></p>a":                     `div["a"]`,
	})
}

func TestWordsAndCommentsInTexts(t *testing.T) {
	checkTrees(t, map[string]string{
		"a< b":                         `"a< b"`,
		"a<<1<":                        `"a<<1<"`,
		"&l<t;":                        `"&l"`,
		"&l< t;":                       `"&l< t;"`,
		"a</b>c":                       `"ac"`,
		"a</b></i>c</br>d":             `"acd"`,
		"a<x_y>c</x_y>d":               `"acd"`,
		"a<x_y a='>'>c":                `"ac"`,
		"a<b></b>c":                    `"a" b[] "c"`,
		"a<br>c":                       `"a" br[] "c"`,
		"a<!---->c":                    `"a" !"" "c"`,
		"a<>b</>c":                     `"a<>b" !"" "c"`,
		"<b>a</b>c":                    `b["a"] "c"`,
		"<b>a</i>c</b>d":               `b["ac"] "d"`,
		"<b>a</b></b>c</i>d":           `b["a"] "cd"`,
		"<b><i>a</b>c</i>d":            `b[i["a"]] "cd"`,
		"a<p>b<p>c</p>d":               `"a" p["b"] p["c"] "d"`,
		"a<style>b</style>c":           `"a" style["b"] "c"`,
		"a<style></style>c":            `"a" style[] "c"`,
		"a<svg/>c":                     `"a" svg/svg[] "c"`,
		"<svg>a</g>b</svg>c":           `svg/svg["ab"] "c"`,
		"a<b>&lt;</i>b&gt;</b>&#65;":   `"a" b["<b>"] "A"`,
		"<!--a-->":                     `!"a"`,
		"<!--a--><!--b-->":             `!"a" !"b"`,
		"<!><?x?><!y></1>":             `!"" !"x?" !"y" !"1"`,
		"<!--&lt;<b>":                  `!"&lt;<b>"`,
		"<b><!--a</b>-->c":             `b[!"a</b>" "c"]`,
		"<svg><!--a--><![cdata[<b>]]>": `svg/svg[!"a" !"[cdata[<b" "]]>"]`,
		"<!-->-->a":                    `!">" "a"`,
		"<!DOCTYPE x>a<!--":            `!"DOCTYPE x" "a" !""`,
	})
}

// checkBuild holds promise 7 of a text, and Build and BuildIn against the other reading.
func checkBuild(t *testing.T, s string) int {
	t.Helper()
	want, due := builtBy(s)
	got, code := impl.Build(s)
	if code != due || show(got) != show(want) {
		t.Errorf("Build(%.300q) = %s, %d, want %s, %d", s, show(got), code, show(want), due)
	}
	if code == impl.OK && !isTree(got) || code != impl.OK && len(got) > 0 {
		t.Errorf("Build(%.300q) answers what is no tree, and %d: %s", s, code, show(got))
	}
	if within, code := impl.BuildIn(s, "p"); code != due || show(within) != show(got) {
		t.Errorf("BuildIn(%.300q, p) = %s, %d, not what Build answers", s, show(within), code)
	}
	return code
}

func TestTreesOfAnyPieces(t *testing.T) {
	for _, pieces := range [][]string{
		{"a", "<p>", "</p>", "<div>", "<li>", "<svg>", "<b/>", "</svg>", "<g/>", "<br>", "<x_y>"},
		{"a", "<style>", "</style>", "</style ", "<svg>", "<style/>", "<p>", "</svg>", "<!--c-->", "</b", "<svg/>"},
		{"<svg>", "<math>", "<li>", "<p>", "<x>", "</math>", "</p>", "<hr/>", "<hr>", "</x>"},
	} {
		for n := range 6 {
			if n == 5 && len(pieces) > 10 {
				break
			}
			each(pieces, n, func(s string) { checkBuild(t, s) })
		}
	}
}

func TestTreesOfAnyTexts(t *testing.T) {
	random := rand.New(rand.NewSource(9))
	codes := map[int]int{}
	for range 30000 {
		codes[checkBuild(t, anyBuildText(random, 40, buildPieces()))]++
	}
	for range 3000 {
		codes[checkBuild(t, anyBuildText(random, 150, widePieces()))]++
	}
	for _, code := range []int{impl.OK, impl.ErrDeep, impl.ErrMany, impl.ErrSize} {
		if codes[code] < 100 {
			t.Error("too few of a code", codes)
		}
	}
	for range 10000 {
		checkBuild(t, anyTokenText(random, 30))
	}
	for _, s := range manyTexts() {
		if len(s) <= impl.MaxText {
			checkBuild(t, s)
		}
	}
}
