package tests

import (
	"math/rand"
	"slices"
	"strings"
	"testing"

	"loop.example/g00788/impl"
)

func checkSanitizeText(t *testing.T, s string, c impl.Config, want string, due int) {
	t.Helper()
	if got, code := impl.SanitizeText(s, c); got != want || code != due {
		t.Errorf("SanitizeText(%.200q) of %d bytes by %.200s = %.300q, %d, want %.300q, %d", s, len(s), showConfig(c), got, code, want, due)
	}
}

// checkTextLeft holds SanitizeText against the second readings of three chapters.
func checkTextLeft(t *testing.T, s string, c impl.Config) int {
	t.Helper()
	meant, code := builtBy(s)
	if code != impl.OK {
		checkSanitizeText(t, s, c, "", code)
		return code
	}
	checkSanitizeText(t, s, c, writtenBy(sanitizedBy(meant, c)), impl.OK)
	return impl.OK
}

func TestTextsSanitizedByHand(t *testing.T) {
	for _, v := range []struct{ told, text, want string }{
		{"", "", ""},
		{"", "a&lt;b", "a&lt;b"},
		{"", "a<b", "a"},
		{"", "<p>a<p>b", "<p>a</p><p>b</p>"},
		{"", "<P ID=x>a</P><script>b</script>c", `<p id="x">a</p>c`},
		{"", "<p onclick=x id='\"&'>a", `<p id="&quot;&amp;">a</p>`},
		{"", "a<!--x-->b<!y>", "ab"},
		{"comments", "a<!--x-->b<!y><!--a--b--><?-z><!>", "a<!--x-->b<!--y--><!---->"},
		{"", "<style>a</style><style>b<c</style><xmp>&lt;</xmp>", "<style>a</style><xmp>&lt;</xmp>"},
		{"", "<svg><style>a<b>c</b></style><g/></svg>", "<svg><style>a</style></svg><b>c</b><g></g>"},
		{"", "<svg><use/><g/>x</svg><embed><br>", "<svg><g></g>x</svg><br>"},
		{"unwrap:b", "<b>a&lt;script&gt;</b>", "a&lt;script&gt;"},
		{"unwrap:b", "a<b>b</b>c<b><i>d</b>", "abc<i>d</i>"},
		{"unwrap:style", "<style><script>x</script></style>", "&lt;script&gt;x&lt;/script&gt;"},
		{"unwrap:svg/svg,svg/g", "<svg><g><style>&lt;</style></g></svg>", "<style>&lt;</style>"},
		{"allow:a+href attrs:", "<a href=/x id=y>b</a><a href=JavaScript:x>c<p>d", `<a href="/x">b</a><a>c</a>`},
		{"remove:p drop:id", "<p>a<b id=x class=y>c</b></p><b id=x class=y>d", `<b class="y">d</b>`},
		{"attrs: data", "<p data-x=1 data-=2 id=3>", `<p data-x="1"></p>`},
		{"", "\x00\xff<b>\xff\x00</b>", "\x00\xff<b>\xff\x00</b>"},
	} {
		checkSanitizeText(t, v.text, config(v.told), v.want, impl.OK)
		checkTextLeft(t, v.text, config(v.told))
	}
	checkSanitizeText(t, "<p class=c onclick=d>a<a href=/x src=y>b</a><h2>c</h2><script>d</script>", impl.DefaultConfig(), `<p class="c">a<a href="/x">b</a></p>`, impl.OK)
}

func TestTextsSanitizedAtTheirLimits(t *testing.T) {
	c := config("comments")
	checkSanitizeText(t, strings.Repeat("</b>", 1024), c, "", impl.OK)
	checkSanitizeText(t, strings.Repeat("</b>", 1023)+"<br>", c, "<br>", impl.OK)
	checkSanitizeText(t, "<b"+strings.Repeat(" ", impl.MaxList-4)+">x", c, "<b>x</b>", impl.OK)
	checkSanitizeText(t, "<b"+strings.Repeat(" ", impl.MaxList-3)+">x", c, "", impl.ErrSize)
	checkSanitizeText(t, strings.Repeat("</b>", 1024)+"x", c, "", impl.ErrSize)
	full, _ := impl.Serialize(sized(impl.MaxList))
	checkSanitizeText(t, full, c, full, impl.OK)
	checkSanitizeText(t, full, config("allow:"), "", impl.OK)
	checkSanitizeText(t, full+" ", c, "", impl.ErrSize)
	for _, n := range []int{impl.MaxList + 1, impl.MaxText - 1, impl.MaxText} {
		for _, piece := range []string{"x", "<", "</b>", "\xff", "<b>", "<script>"} {
			checkSanitizeText(t, strings.Repeat(piece, n)[:n], c, "", impl.ErrSize)
		}
	}
	checkSanitizeText(t, bold(10), c, bold(10)+strings.Repeat("</b>", 10), impl.OK)
	checkSanitizeText(t, bold(11), c, "", impl.ErrDeep)
	checkSanitizeText(t, bold(11), config("unwrap:b"), "", impl.ErrDeep)
	checkSanitizeText(t, bold(10)+"<!---->", config(""), "", impl.ErrDeep)
	checkSanitizeText(t, breaks(60), c, breaks(60), impl.OK)
	checkSanitizeText(t, breaks(61), c, "", impl.ErrMany)
	checkSanitizeText(t, breaks(61), config("allow:"), "", impl.ErrMany)
	checkSanitizeText(t, breaks(60)+"<script>", c, "", impl.ErrMany)
	checkSanitizeText(t, long(120), c, long(120), impl.OK)
	checkSanitizeText(t, long(121), c, "", impl.ErrSize)
	checkSanitizeText(t, "<script>"+long(121), c, "", impl.ErrSize)
	checkSanitizeText(t, "<!--"+long(121)+"-->", config(""), "", impl.ErrSize)
	checkSanitizeText(t, long(60)+"<b>"+long(61), config("unwrap:b"), long(121), impl.OK)
	wide := strings.Repeat(`<b id="`+strings.Repeat("&", 40)+`">`+strings.Repeat("&", 80)+"</b>", 30)
	checkSanitizeText(t, wide, c, strings.Repeat(`<b id="`+strings.Repeat("&amp;", 40)+`">`+strings.Repeat("&amp;", 80)+"</b>", 30), impl.OK)
}

// TestFirstCodesOfTextsSanitized has texts with a code, each beside configurations without one, and with one.
func TestFirstCodesOfTextsSanitized(t *testing.T) {
	for s, want := range map[string]int{
		"": impl.OK, "<p>a": impl.OK, "\xff": impl.OK, strings.Repeat("</b>", 1024): impl.OK,
		strings.Repeat("</b>", 1024) + "x": impl.ErrSize, long(4097): impl.ErrSize, long(impl.MaxText): impl.ErrSize, strings.Repeat("<b>", 2000): impl.ErrSize, strings.Repeat("<br>", 2000): impl.ErrSize,
		long(121): impl.ErrSize, "<!" + long(121): impl.ErrSize, bold(11): impl.ErrDeep, bold(11) + breaks(61): impl.ErrDeep, breaks(61): impl.ErrMany, breaks(61) + long(121): impl.ErrMany, long(121) + bold(11): impl.ErrSize,
	} {
		for i, c := range codedConfigs() {
			checkSanitizeText(t, s, c, "", []int{impl.ErrBad, impl.ErrConfig}[i%2])
		}
		for _, c := range []impl.Config{{}, config("allow:"), config("unwrap:b comments"), impl.DefaultConfig()} {
			if got, code := impl.SanitizeText(s, c); code != want || code != impl.OK && got != "" {
				t.Errorf("SanitizeText(%.60q) = %.60q, %d, want %d", s, got, code, want)
			}
		}
	}
	for _, n := range []int{impl.MaxText + 1, impl.MaxText + 2, 1 << 20} {
		for _, piece := range []string{"x", "</b>", "<b>", "\xff"} {
			s := strings.Repeat(piece, n)[:n]
			for _, c := range append(codedConfigs(), impl.Config{}, impl.DefaultConfig(), config("allow:")) {
				checkSanitizeText(t, s, c, "", impl.ErrLong)
			}
		}
	}
}

// TestTextsLeftOfAnyTexts holds SanitizeText against the second readings.
func TestTextsLeftOfAnyTexts(t *testing.T) {
	random := rand.New(rand.NewSource(8))
	configs := slices.Concat(wideConfigs(), rightConfigs(), anyConfigs(60))
	codes := map[int]int{}
	for i := range 6000 {
		c := configs[i%len(configs)]
		codes[checkTextLeft(t, anyHarmText(random), c)]++
		codes[checkTextLeft(t, anyTokenText(random, 30), c)]++
		if i%3 == 0 {
			codes[checkTextLeft(t, anyBuildText(random, 150, widePieces()), c)]++
		}
	}
	for i, s := range append(harmTexts(), manyTexts()...) {
		if len(s) <= impl.MaxText {
			codes[checkTextLeft(t, s, configs[i%len(configs)])]++
			codes[checkTextLeft(t, s, config("comments"))]++
		}
	}
	if codes[impl.OK] < 10000 || codes[impl.ErrDeep] < 10 || codes[impl.ErrMany] < 10 || codes[impl.ErrSize] < 10 {
		t.Error("too few of one sort", codes)
	}
}

func checkSanitizeCode(t *testing.T, what any, nodes []impl.Node, c impl.Config, want int) {
	t.Helper()
	left, c1 := impl.Sanitize(nodes, c)
	yes, c2 := impl.Permitted(nodes, c)
	n, c3 := impl.Removed(nodes, c)
	if len(left) != 0 || yes || n != 0 || c1 != want || c2 != want || c3 != want {
		t.Errorf("%v by %.200s: %.80s %v %d, codes %d %d %d, want %d", what, showConfig(c), show(left), yes, n, c1, c2, c3, want)
	}
}

// TestFirstCodesOfTreesSanitized has what is no tree beside right configurations and ones with a code, and right trees beside the latter.
func TestFirstCodesOfTreesSanitized(t *testing.T) {
	configs := append(codedConfigs(), impl.Config{}, impl.DefaultConfig(), config("allow:"), config("unwrap:b comments"))
	for i, x := range append(wrongTrees(), hugeTrees()...) {
		for k, c := range configs {
			if k >= len(configs)-4 || (i+k)%5 == 0 {
				checkSanitizeCode(t, i, x, c, impl.ErrBad)
			}
		}
	}
	for i, x := range longTrees() {
		for _, c := range configs {
			checkSanitizeCode(t, i, x, c, impl.ErrLong)
		}
	}
	for i, c := range codedConfigs() {
		for _, x := range [][]impl.Node{nil, {}, tree(words("x")), tree(element("script")), tree(element("p", comment("--"))), nested(10), repeated(element("br"), 60)} {
			checkSanitizeCode(t, brief(x), x, c, []int{impl.ErrBad, impl.ErrConfig}[i%2])
		}
	}
	checkSanitizeCode(t, "MaxList", repeated(words("x"), impl.MaxList), config(""), impl.ErrBad)
	checkSanitizeCode(t, "MaxList", repeated(words("x"), impl.MaxList), config("data"), impl.ErrBad)
	checkSanitizeCode(t, "MaxList and one", repeated(words("x"), impl.MaxList+1), config("data"), impl.ErrLong)
}

// TestConfigsWithACodeSanitizeNothing has many of them.
func TestConfigsWithACodeSanitizeNothing(t *testing.T) {
	x := tree(element("p", words("x")), element("script"))
	for _, c := range badConfigs() {
		checkSanitizeCode(t, "a tree", x, c, impl.ErrBad)
		checkSanitizeText(t, "<p>x", c, "", impl.ErrBad)
	}
	for told, cured := range contradictions() {
		checkSanitizeCode(t, "a tree", x, config(told), impl.ErrConfig)
		checkSanitizeText(t, "<p>x", config(told), "", impl.ErrConfig)
		for _, other := range cured {
			checkLeft(t, x, config(other), sanitizedBy(x, config(other)))
		}
	}
}
