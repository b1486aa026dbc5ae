package tests

import (
	"strings"
	"testing"

	"loop.example/g00788/impl"
)

func checkBuildCode(t *testing.T, s string, want int) {
	t.Helper()
	if got, code := impl.Build(s); code != want || len(got) != 0 {
		t.Errorf("Build(%.100q) = %.100s, %d, want code %d", s, show(got), code, want)
	}
	if got, code := impl.BuildIn(s, "div"); code != want || len(got) != 0 {
		t.Errorf("BuildIn(%.100q, div) = %.100s, %d, want code %d", s, show(got), code, want)
	}
}

// checkBuilt takes texts that have a tree, of so many nodes, so deep.
func checkBuilt(t *testing.T, s string, count, depth int) {
	t.Helper()
	got, code := impl.Build(s)
	nodes, _ := impl.CountOf(got)
	deepest, _ := impl.DepthOf(got)
	if code != impl.OK || nodes != count || deepest != depth {
		t.Errorf("Build(%.100q) has %d nodes, %d deep, code %d, want %d, %d", s, nodes, deepest, code, count, depth)
	}
}

func bold(n int) string { return strings.Repeat("<b>", n) }

func breaks(n int) string { return strings.Repeat("<br>", n) }

func foreign(n int) string { return strings.Repeat("<svg>", n) }

func long(n int) string { return strings.Repeat("x", n) }

// nodeTexts are texts of one node each.
func nodeTexts() []string {
	return []string{"a", "&lt;", "<", "<!--c-->", "<!>", "<b>", "<br>", "<svg>", "<math/>", "<style>", "<xmp></xmp>", "<p>", "<li a=b>", long(impl.MaxWords)}
}

func TestDeepTexts(t *testing.T) {
	for _, one := range nodeTexts() {
		checkBuilt(t, bold(8)+one, 9, 9)
		checkBuilt(t, bold(9)+one, 10, 10)
		checkBuilt(t, bold(10)+"</b>"+one, 11, 10)
		checkBuildCode(t, bold(10)+one, impl.ErrDeep)
		checkBuildCode(t, bold(10)+"</i><x_y>"+one+"<b>", impl.ErrDeep)
		checkBuildCode(t, bold(9)+"<a>"+one, impl.ErrDeep)
	}
	checkBuilt(t, bold(10), 10, 10)
	checkBuilt(t, bold(10)+"</i><x_y></x_y>", 10, 10)
	checkBuilt(t, foreign(10), 10, 10)
	checkBuilt(t, foreign(10)+"<p>"+bold(9), 20, 10)
	checkBuilt(t, bold(9)+"<svg><p>", 11, 10)
	checkBuilt(t, bold(9)+"<p><p></p><p>", 12, 10)
	checkBuilt(t, bold(9)+"<li><li><li>", 12, 10)
	checkBuilt(t, bold(9)+"<style></style>a", 11, 10)
	checkBuilt(t, bold(8)+"<style>a</style>", 10, 10)
	for _, s := range []string{
		bold(9) + "<p>a", bold(9) + "<p><li>", bold(9) + "<p></i><x_y><b>", bold(9) + "<style>a", bold(9) + "<style> </style>", bold(9) + "<svg>a", bold(9) + "<svg><g/>",
		foreign(10) + "a", foreign(10) + "<g>", foreign(10) + "<math/>", foreign(10) + "<!---->", foreign(10) + "<p>" + bold(10), bold(9) + "<b/><b/>", bold(11), bold(200), strings.Repeat("<li><p>", 6),
	} {
		checkBuildCode(t, s, impl.ErrDeep)
	}
}

func TestTextsOfManyNodes(t *testing.T) {
	for _, one := range nodeTexts() {
		checkBuilt(t, breaks(58)+one, 59, 1)
		checkBuilt(t, breaks(59)+one, 60, 1)
		checkBuildCode(t, breaks(60)+one, impl.ErrMany)
		checkBuildCode(t, strings.Repeat("<a></a>", 60)+one, impl.ErrMany)
		checkBuildCode(t, strings.Repeat("<p><a></a>x", 20)+"</p>"+one, impl.ErrMany)
		checkBuildCode(t, strings.Repeat("<a/>", 3)+"<svg>"+strings.Repeat("<g/>", 56)+"</svg>"+one, impl.ErrMany)
	}
	checkBuilt(t, breaks(60)+"</b><x_y></x_y>", 60, 1)
	checkBuilt(t, breaks(59)+"a</b>b<x_y>c", 60, 1)
	checkBuilt(t, strings.Repeat("<p><a></a>x", 20), 60, 2)
	checkBuilt(t, strings.Repeat("<p><a></a>x", 20)+"</b>y</p></p>", 60, 2)
	checkBuilt(t, strings.Repeat("<style>a</style>", 30), 60, 2)
	checkBuilt(t, strings.Repeat("a<!---->", 30), 60, 1)
	checkBuildCode(t, strings.Repeat("<style>a</style>", 29)+"<br><br><style>a", impl.ErrMany)
	checkBuildCode(t, strings.Repeat("a<!---->", 31), impl.ErrMany)
	checkBuildCode(t, breaks(1024), impl.ErrMany)
}

func TestTextsOfManyWords(t *testing.T) {
	for _, s := range []string{
		long(120), long(60) + "</b>" + long(60), long(119) + "<x_y>x", "x<x_y></x_y></i>" + long(119), "<<" + strings.Repeat("1", 118),
		strings.Repeat("&lt;", 120), strings.Repeat("&lt;", 60) + "</b>" + strings.Repeat("&#65;", 60), strings.Repeat("x</b>", 120), strings.Repeat("< ", 60), strings.Repeat("\xff", 120), strings.Repeat("é", 60),
	} {
		checkBuilt(t, s, 1, 1)
		checkBuilt(t, "<br>"+s+"</b><!---->", 3, 1)
		checkBuildCode(t, s+"x", impl.ErrSize)
		checkBuildCode(t, s+"</b>x", impl.ErrSize)
		checkBuildCode(t, "&gt;</b>"+s, impl.ErrSize)
		checkBuildCode(t, "<br><p>a<p>"+s+"<x_y>&lt;", impl.ErrSize)
		checkBuilt(t, s+"<br>"+s, 3, 1)
		checkBuilt(t, "<a>"+s+"</a>"+s+"<!---->"+s+"<p>"+s, 7, 2)
	}
	checkBuildCode(t, long(121), impl.ErrSize)
	checkBuildCode(t, long(4096), impl.ErrSize)
	checkBuildCode(t, strings.Repeat("&lt;", 121), impl.ErrSize)
	for _, marks := range [][2]string{{"<!--", "-->"}, {"<!--", ""}, {"<!", ">"}, {"<?", ""}, {"</", ">"}} {
		checkBuilt(t, marks[0]+"1"+long(119)+marks[1], 1, 1)
		checkBuilt(t, "x"+marks[0]+"1"+long(119)+marks[1], 2, 1)
		checkBuildCode(t, marks[0]+"1"+long(120)+marks[1], impl.ErrSize)
		checkBuildCode(t, marks[0]+strings.Repeat("&lt;", 31)+marks[1], impl.ErrSize)
	}
	checkBuilt(t, "<!--"+long(120)+"--><!--"+long(120)+"-->", 2, 1)
	for _, name := range raws() {
		tag, end := "<"+name+">", "</"+name+">"
		checkBuilt(t, tag+long(120)+end, 2, 2)
		checkBuilt(t, tag+strings.Repeat("&lt;", 30), 2, 2)
		checkBuilt(t, long(120)+tag+long(120)+end+long(120), 4, 2)
		checkBuildCode(t, tag+long(121)+end, impl.ErrSize)
		checkBuildCode(t, tag+strings.Repeat("&lt;", 30)+"x", impl.ErrSize)
	}
}

func TestLongTexts(t *testing.T) {
	ends := strings.Repeat("</b>", impl.MaxList/4)
	checkBuilt(t, ends, 0, 0)
	checkBuildCode(t, ends+"a", impl.ErrSize)
	checkBuildCode(t, ends+"</b>", impl.ErrSize)
	checkBuilt(t, "<b"+strings.Repeat(" ", impl.MaxList-3)+">", 1, 1)
	checkBuildCode(t, "<b"+strings.Repeat(" ", impl.MaxList-2)+">", impl.ErrSize)
	checkBuilt(t, ends[:impl.MaxList-4]+"a<b>", 2, 1)
	checkBuilt(t, "a<b"+strings.Repeat("\xff", impl.MaxList-3), 1, 1)
	for _, n := range []int{impl.MaxList + 1, impl.MaxText - 1, impl.MaxText} {
		for _, piece := range []string{"x", "<", "\x00", "\xff", " "} {
			checkBuildCode(t, strings.Repeat(piece, n), impl.ErrSize)
		}
		checkBuildCode(t, strings.Repeat("</b>", n)[:n], impl.ErrSize)
		checkBuildCode(t, strings.Repeat("<b>", n)[:n], impl.ErrSize)
	}
	for _, piece := range []string{"x", "<b>", "</b>", "\xff"} {
		checkBuildCode(t, strings.Repeat(piece, impl.MaxText+1), impl.ErrLong)
		checkBuildCode(t, strings.Repeat(piece, impl.MaxText+1)[:impl.MaxText+1], impl.ErrLong)
	}
}

// TestFirstCodesOfTexts has texts of more than one fault.
func TestFirstCodesOfTexts(t *testing.T) {
	for s, want := range map[string]int{
		breaks(50) + bold(10) + "a":                                        impl.ErrDeep,
		breaks(50) + bold(10) + "<b>":                                      impl.ErrDeep,
		breaks(50) + bold(10) + "</b>a":                                    impl.ErrMany,
		breaks(51) + bold(10) + "a":                                        impl.ErrMany,
		breaks(60) + long(121):                                             impl.ErrMany,
		breaks(60) + "<!--" + long(121) + "-->":                            impl.ErrMany,
		bold(10) + long(121):                                               impl.ErrDeep,
		bold(10) + "<!--" + long(121):                                      impl.ErrDeep,
		breaks(50) + bold(10) + long(121):                                  impl.ErrDeep,
		breaks(50) + bold(10) + "<!--" + long(121):                         impl.ErrDeep,
		breaks(59) + long(120) + "</x>x":                                   impl.ErrSize,
		breaks(59) + long(120) + "</x>x<br>":                               impl.ErrSize,
		breaks(59) + "x<br></x>" + long(121):                               impl.ErrMany,
		bold(9) + long(120) + "</x>x":                                      impl.ErrSize,
		breaks(50) + bold(9) + long(120) + "</x>x":                         impl.ErrSize,
		long(121) + bold(11):                                               impl.ErrSize,
		long(121) + breaks(61):                                             impl.ErrSize,
		"<!" + long(121) + ">" + bold(11):                                  impl.ErrSize,
		bold(11) + breaks(61) + long(121):                                  impl.ErrDeep,
		breaks(61) + bold(11) + long(121):                                  impl.ErrMany,
		bold(11) + strings.Repeat(" ", impl.MaxList):                       impl.ErrSize,
		breaks(61) + strings.Repeat("</b>", impl.MaxList/4):                impl.ErrSize,
		bold(11) + strings.Repeat("</b>", impl.MaxText/4):                  impl.ErrLong,
		bold(9) + "<style>" + long(121):                                    impl.ErrDeep,
		breaks(59) + "<style>" + long(121):                                 impl.ErrMany,
		bold(11) + "</b></b></b></b></b></b></b></b></b></b></b>" + "a":    impl.ErrDeep,
		breaks(61) + "<b" + strings.Repeat(" ", impl.MaxList-61*4-3) + ">": impl.ErrMany,
	} {
		checkBuildCode(t, s, want)
	}
}

func checkBuildIn(t *testing.T, s, context, want string, due int) {
	t.Helper()
	got, code := impl.BuildIn(s, context)
	if code != due || brief(got) != want || code == impl.OK && !impl.TreeOK(got) {
		t.Errorf("BuildIn(%.100q, %.60q) = %.200s, %d, want %s, %d", s, context, show(got), code, want, due)
	}
}

func TestWhatIsInAnElement(t *testing.T) {
	for _, name := range voids() {
		for _, s := range []string{"", "a", "<b>a", long(121), bold(11), breaks(61), "\xff\x00<", "</" + name + ">", long(impl.MaxList)} {
			checkBuildIn(t, s, name, "", impl.OK)
		}
		checkBuildIn(t, long(impl.MaxList+1), name, "", impl.ErrSize)
		checkBuildIn(t, long(impl.MaxText), name, "", impl.ErrSize)
		checkBuildIn(t, long(impl.MaxText+1), name, "", impl.ErrLong)
	}
	for _, name := range raws() {
		checkBuildIn(t, "", name, "", impl.OK)
		for s, want := range map[string]string{
			"a": `"a"`, " ": `" "`, "<b>a&lt;<!--": `"<b>a&lt;<!--"`, "a</" + name + ">b": `"a</` + name + `>b"`, "</" + name + ">": `"</` + name + `>"`,
			"<" + name + ">": `"<` + name + `>"`, bold(11): `"` + bold(11) + `"`, "\xff\x00": `"\xff\x00"`, long(120): `"` + long(120) + `"`, "&#65;": `"&#65;"`,
		} {
			checkBuildIn(t, s, name, want, impl.OK)
		}
		for _, s := range []string{long(121), breaks(31), strings.Repeat("&lt;", 31), long(60) + "</" + name + ">" + long(60), long(impl.MaxList), long(impl.MaxList + 1), long(impl.MaxText)} {
			checkBuildIn(t, s, name, "", impl.ErrSize)
		}
		checkBuildIn(t, long(impl.MaxText+1), name, "", impl.ErrLong)
	}
}

// TestWhatIsInOtherElements holds that what they are named ends nothing, and lends no Space.
func TestWhatIsInOtherElements(t *testing.T) {
	for _, name := range append(tagMembers(), "a-1", "g", "twelveletter") {
		if among(strings.Join(append(voids(), raws()...), " "), name) {
			continue
		}
		for s, want := range map[string]string{
			"": ``, "<b>a": `b["a"]`, "a</" + name + ">b": `"ab"`, "<g><li><p>": `g[li[p[]]]`, "<style><p></style><svg/>": `style["<p>"] svg/svg[]`, long(120): `"` + long(120) + `"`,
		} {
			checkBuildIn(t, s, name, want, impl.OK)
		}
		checkBuildIn(t, bold(10), name, strings.Repeat("b[", 10)+strings.Repeat("]", 10), impl.OK)
		checkBuildIn(t, bold(11), name, "", impl.ErrDeep)
		checkBuildIn(t, breaks(61), name, "", impl.ErrMany)
		checkBuildIn(t, long(121), name, "", impl.ErrSize)
		checkBuildIn(t, long(impl.MaxList+1), name, "", impl.ErrSize)
		checkBuildIn(t, long(impl.MaxText+1), name, "", impl.ErrLong)
	}
}

func TestWhatIsInNoElement(t *testing.T) {
	tooLong := long(impl.MaxText + 1)
	for _, name := range append(wrongTags(), "BR", "STYLE", "br ", "Xmp") {
		for _, s := range []string{"", "a", "<b>a", bold(11), breaks(61), long(121), long(impl.MaxList), long(impl.MaxList + 1), long(impl.MaxText), "\xff"} {
			checkBuildIn(t, s, name, "", impl.ErrName)
		}
		checkBuildIn(t, tooLong, name, "", impl.ErrLong)
	}
	for _, s := range []string{"", "a", bold(11), long(impl.MaxList + 1), tooLong} {
		checkBuildIn(t, s, tooLong, "", impl.ErrLong)
	}
}

// TestTreesOfTextsAreNewMemory writes into answers, and builds the texts again.
func TestTreesOfTextsAreNewMemory(t *testing.T) {
	for _, s := range []string{
		"a<b>c</b>", "<p a=b c=d>x<p e=f>y<li>z<li>w", "<svg a=b><g c=d/><g e=f></svg><style g=h>a</style>", strings.Repeat("<p><a b=c></a>x", 20), "<br a=b><br c=d><br e=f g=h i=j k=l m=n o=p>",
	} {
		first, code := impl.Build(s)
		before := show(first)
		second, _ := impl.Build(s)
		within, _ := impl.BuildIn(s, "div")
		if code != impl.OK || before == "" {
			t.Errorf("Build(%q) has code %d", s, code)
		}
		noListsShared(t, []impl.Node{element("x", first...), element("x", second...), element("x", within...)})
		spoil(second)
		spoil(within)
		if again, _ := impl.Build(s); show(first) != before || show(again) != before {
			t.Errorf("answers of %q share memory", s)
		}
	}
}
