package tests

import (
	"math"
	"reflect"
	"slices"
	"strings"
	"testing"

	"loop.example/g00788/impl"
)

func checkHouse(t *testing.T, h impl.House, want bool) {
	t.Helper()
	if isHouseBy(h) != want {
		t.Errorf("by the second reading that is %v, by hand %v, of %.300s", !want, want, showHouse(h))
	}
	for _, alike := range []impl.House{h, houseWithRoom(h), copiedHouse(h)} {
		if impl.HouseOK(alike) != want || impl.SameHouse(alike, h) != want || impl.SameHouse(h, alike) != want {
			t.Errorf("HouseOK %v, SameHouse of itself %v %v, want %v, of %.300s", impl.HouseOK(alike), impl.SameHouse(alike, h), impl.SameHouse(h, alike), want, showHouse(h))
		}
	}
}

func docsNamed(names string) []impl.Doc {
	var docs []impl.Doc
	for _, name := range strings.Fields(names) {
		docs = append(docs, doc(name))
	}
	return docs
}

func TestHousesByHowMuchTheyHold(t *testing.T) {
	c := impl.DefaultConfig()
	for _, docs := range []string{"", "p", "p p", "p br style script svg a-1234567890"} {
		for n := range impl.MaxConfigs + 1 {
			checkHouse(t, impl.House{Docs: docsNamed(docs), Configs: slices.Repeat([]impl.Config{c}, n)}, true)
		}
		for _, n := range []int{impl.MaxConfigs + 1, impl.MaxDocs, 100} {
			checkHouse(t, impl.House{Docs: docsNamed(docs), Configs: slices.Repeat([]impl.Config{c}, n)}, false)
		}
	}
	for _, n := range []int{impl.MaxDocs + 1, impl.MaxDocs + 2, impl.MaxList + 1} {
		checkHouse(t, housing(slices.Repeat(docsNamed("p"), n)...), false)
	}
	for i, c := range codedConfigs() {
		if len(c.Unwrap) > impl.MaxList {
			continue
		}
		for k := range impl.MaxConfigs {
			configs := slices.Repeat([]impl.Config{config("comments")}, impl.MaxConfigs)
			configs[k] = c
			checkHouse(t, impl.House{Configs: configs}, false)
			checkHouse(t, impl.House{Docs: docsNamed("p b"), Configs: configs[k:]}, false)
			if i > 0 {
				configs[0] = codedConfigs()[i-1]
				checkHouse(t, impl.House{Configs: configs}, false)
			}
		}
	}
	for _, c := range append(rightConfigs(), anyConfigs(40)...) {
		checkHouse(t, impl.House{Configs: []impl.Config{config(""), c}}, true)
	}
}

// checkDoc has the document in a house by itself, and ahead of others and behind them.
func checkDoc(t *testing.T, d impl.Doc, want bool) {
	t.Helper()
	checkHouse(t, impl.House{Docs: []impl.Doc{d}}, want)
	checkHouse(t, housing(doc("p", words("x")), doc("br"), d), want)
	checkHouse(t, housing(d, doc("style", words("x"))), want)
}

func TestDocsOfHouses(t *testing.T) {
	x := words("x")
	for _, name := range tagMembers() {
		checkDoc(t, doc(name), true)
		isVoid, isRaw := among(voidNames, name), among(rawNames, name)
		checkDoc(t, doc(name, x), !isVoid)
		checkDoc(t, doc(name, words("<b>"), words("</"+name+">"), words(strings.Repeat("w", 120))), !isVoid)
		checkDoc(t, doc(name, repeated(x, impl.MaxNodes)...), !isVoid)
		checkDoc(t, doc(name, repeated(x, impl.MaxNodes+1)...), false)
		for _, kids := range [][]impl.Node{tree(comment("")), tree(element("b")), tree(x, comment("c")), tree(comment("c"), x), tree(x, x, inSpace(1, "svg")), tree(element("br"), x), tree(element("style", x)), tree(inSpace(2, "mi", comment("-->"))), nested(10), edited()} {
			checkDoc(t, doc(name, kids...), !isVoid && !isRaw)
		}
	}
	for _, name := range wrongTags() {
		checkHouse(t, housing(doc(name)), false)
		checkHouse(t, housing(doc("p"), doc(name, x)), false)
	}
	for _, name := range []string{"STYLE", "Style", "BR", "Br", "SCRIPT", "sty\x00le", "style ", "br/"} {
		checkDoc(t, doc(name), false)
		checkDoc(t, doc(name, x), false)
	}
	for _, kids := range slices.Concat(rightTrees(), grownTrees(100)) {
		checkDoc(t, doc("div", kids...), true)
		checkDoc(t, doc("svg", kids...), true)
	}
}

func TestDocsOfWhatIsNoTree(t *testing.T) {
	for _, kids := range wrongTrees() {
		for _, name := range []string{"p", "style", "br"} {
			checkHouse(t, housing(doc(name, kids...)), false)
		}
		h := housing(doc("p"), doc("b", kids...), doc("i"))
		checkHouse(t, h, false)
		for n := range 4 {
			for _, c := range callsOn(n) {
				checkBad(t, h, c)
			}
		}
	}
	for _, kids := range append(hugeTrees(), longTrees()...) {
		h := housing(doc("p"), impl.Doc{Name: "b", Kids: kids})
		if impl.HouseOK(h) || impl.SameHouse(h, h) || impl.SameHouse(h, housing()) || impl.SameHouse(housing(), h) || impl.SameHouse(housing(doc("p"), doc("b", element("b"), element("i"))), h) {
			t.Error("a house of a huge tree is right, or like another")
		}
		for _, c := range callsOn(0) {
			checkBad(t, h, c)
		}
	}
	huge := impl.House{Docs: make([]impl.Doc, 1<<20), Configs: make([]impl.Config, 1<<20)}
	if impl.HouseOK(huge) || impl.SameHouse(huge, huge) {
		t.Error("a huge house is right")
	}
}

// differing are houses of which no two are alike; all are right.
func differing() []impl.House {
	a, b, x, y := config("comments"), config("drop:id"), words("x"), words("y")
	houses := []impl.House{
		{}, {Docs: docsNamed("p")}, {Docs: docsNamed("b")}, {Docs: docsNamed("p b")}, {Docs: docsNamed("b p")}, {Docs: docsNamed("p p")}, {Docs: docsNamed("p p p")}, {Docs: docsNamed("br")}, {Docs: docsNamed("p1")},
		{Configs: []impl.Config{a}}, {Configs: []impl.Config{b}}, {Configs: []impl.Config{a, b}}, {Configs: []impl.Config{b, a}}, {Configs: []impl.Config{a, a}}, {Configs: []impl.Config{a, b, {}}}, {Configs: []impl.Config{{}}},
		{Docs: docsNamed("p"), Configs: []impl.Config{a}}, {Docs: docsNamed("p"), Configs: []impl.Config{{}}}, {Configs: []impl.Config{config("unwrap:a,b")}}, {Configs: []impl.Config{config("unwrap:b,a")}},
	}
	for _, kids := range [][]impl.Node{tree(x), tree(y), tree(x, y), tree(y, x), tree(x, x), tree(comment("x")), tree(element("x")), tree(inSpace(1, "x")), tree(element("b", x)), tree(element("b", y)), tree(element("b"), x),
		tree(withAttrs(element("b"), "id", "x")), tree(withAttrs(element("b"), "id", "y")), tree(withAttrs(element("b"), "id", "x", "src", "x")), tree(withAttrs(element("b"), "src", "x", "id", "x"))} {
		houses = append(houses, impl.House{Docs: []impl.Doc{doc("p", kids...)}}, impl.House{Docs: []impl.Doc{doc("p"), doc("p", kids...)}}, impl.House{Docs: []impl.Doc{doc("i", kids...)}})
	}
	return houses
}

func TestSameHouses(t *testing.T) {
	for i, a := range differing() {
		checkHouse(t, a, true)
		for k, b := range differing() {
			if same := impl.SameHouse(houseWithRoom(a), b); same != (i == k) {
				t.Errorf("SameHouse(%s\n, %s) = %v", showHouse(a), showHouse(b), same)
			}
		}
	}
	for _, c := range append(rightConfigs(), anyConfigs(20)...) {
		h := impl.House{Configs: []impl.Config{{}, c}}
		for _, other := range changedConfigs(c) {
			if got := impl.SameHouse(h, impl.House{Configs: []impl.Config{{}, other}}); got != (showConfig(c) == showConfig(other)) {
				t.Errorf("SameHouse of %s and %s = %v", showConfig(c), showConfig(other), got)
			}
		}
	}
}

// TestWrongHousesAreLikeNone holds them against themselves, and right ones against them.
func TestWrongHousesAreLikeNone(t *testing.T) {
	wrong := []impl.House{
		{Docs: docsNamed("p p p p p p p")}, {Docs: docsNamed("P")}, {Docs: []impl.Doc{{}}}, {Docs: []impl.Doc{doc("br", words("x"))}}, {Docs: []impl.Doc{doc("style", comment(""))}}, {Docs: []impl.Doc{doc("p", words(""))}},
		{Configs: make([]impl.Config, impl.MaxConfigs+1)}, {Configs: []impl.Config{config("data")}}, {Configs: []impl.Config{{}, config("attrs:A")}},
	}
	for _, a := range wrong {
		checkHouse(t, a, false)
		for _, b := range append(differing(), wrong...) {
			if impl.SameHouse(a, b) || impl.SameHouse(b, a) {
				t.Errorf("SameHouse of %s and %s", showHouse(a), showHouse(b))
			}
		}
		for _, c := range append(callsOn(0), callsOn(5)...) {
			checkBad(t, a, c)
			checkBad(t, a, impl.Call{Kind: c.Kind, Doc: 6})
		}
	}
}

func checkNewHouse(t *testing.T, configs []impl.Config, due int) {
	t.Helper()
	configs = configsWithRoom(mappedHouse(impl.House{Configs: configs}, withRoom, configWithRoom).Configs)
	before := shownHouse(impl.House{Configs: configs})
	h, code := impl.NewHouse(configs)
	want := impl.House{}
	if due == impl.OK {
		want.Configs = configs
	}
	if showHouse(h) != showHouse(want) || code != due || due == impl.OK && !impl.SameHouse(h, want) {
		t.Errorf("NewHouse of %d: %.300s, %d, want %d", len(configs), showHouse(h), code, due)
	}
	checkApart(t, listsOfHouses(h, impl.House{Configs: configs}))
	spoilHouse(h)
	if shownHouse(impl.House{Configs: configs}) != before {
		t.Errorf("NewHouse changes its argument, or shares memory with it: %.300s", before)
	}
}

func TestNewHouses(t *testing.T) {
	right := config("allow:p+id unwrap:b attrs:on,href comments data")
	for n := range impl.MaxConfigs + 1 {
		checkNewHouse(t, slices.Repeat([]impl.Config{right}, n), impl.OK)
	}
	for _, c := range append(rightConfigs(), anyConfigs(40)...) {
		checkNewHouse(t, []impl.Config{right, c}, impl.OK)
	}
	for _, n := range []int{impl.MaxConfigs + 1, 100, impl.MaxList} {
		checkNewHouse(t, slices.Repeat([]impl.Config{right}, n), impl.ErrMany)
		checkNewHouse(t, slices.Repeat([]impl.Config{config("data")}, n), impl.ErrMany)
		checkNewHouse(t, append(slices.Repeat([]impl.Config{right}, n-1), config("attrs:A")), impl.ErrMany)
	}
	for _, n := range []int{impl.MaxList + 1, 2 * impl.MaxList} {
		checkNewHouse(t, slices.Repeat([]impl.Config{right}, n), impl.ErrLong)
		checkNewHouse(t, slices.Repeat([]impl.Config{config("data")}, n), impl.ErrLong)
		checkNewHouse(t, make([]impl.Config, n), impl.ErrLong)
	}
}

// TestFirstCodesOfNewHouses has a code of each configuration, none and one by turns.
func TestFirstCodesOfNewHouses(t *testing.T) {
	coded := map[int]impl.Config{impl.OK: config("comments"), impl.ErrBad: config("attrs:A"), impl.ErrConfig: config("data")}
	codes := []int{impl.OK, impl.ErrBad, impl.ErrConfig}
	for n := range 3 * 3 * 3 * 3 {
		var configs []impl.Config
		due := impl.OK
		for range impl.MaxConfigs {
			code := codes[n%3]
			n /= 3
			configs = append(configs, coded[code])
			if due == impl.OK {
				due = code
			}
		}
		checkNewHouse(t, configs, due)
		checkNewHouse(t, append(configs, impl.Config{}), impl.ErrMany)
	}
	for i, c := range codedConfigs() {
		due := []int{impl.ErrBad, impl.ErrConfig}[i%2]
		if _, code := impl.NewHouse([]impl.Config{{}, c}); code != due {
			t.Errorf("NewHouse has code %d, want %d", code, due)
		}
	}
}

func checkCallOK(t *testing.T, c impl.Call, want bool) {
	t.Helper()
	if isCallBy(c) != want {
		t.Errorf("by the second reading that is %v, by hand %v, of %s", !want, want, showCall(c))
	}
	if got, roomy := impl.CallOK(c), impl.CallOK(callWithRoom(c)); got != want || roomy != want {
		t.Errorf("CallOK(%s) = %v, with room %v", showCall(c), got, roomy)
	}
	safe, code := impl.SafeDocs([]impl.Call{c})
	_, list, ran := impl.RunCalls(nil, []impl.Call{c})
	due, many, told := impl.ErrBad, 0, 0
	if want {
		due, many, told = impl.OK, impl.MaxDocs, 1
	}
	if len(safe) != many || code != due || len(list) != told || ran != due {
		t.Errorf("%s: SafeDocs %v, %d, RunCalls %v, %d", showCall(c), safe, code, list, ran)
	}
	if _, answer, code := impl.DoCall(impl.House{}, c); code != due || want == (answer == impl.Answer{}) && c.Kind != impl.ClCreate {
		t.Errorf("%s: DoCall %v, %d", showCall(c), answer, code)
	}
}

// TestPartsOfCalls gives each kind each part that it has not, alone and with others.
func TestPartsOfCalls(t *testing.T) {
	has := [...]string{"", "name", "path name", "path text", "path name text", "path", "config text", "text", "config", ""}
	for kind := -1; kind <= 11; kind++ {
		for parts := range 16 {
			c := impl.Call{Kind: kind, Doc: 1}
			if parts&1 > 0 {
				c.Name = "p"
			}
			if parts&2 > 0 {
				c.Path = []int{0}
			}
			if parts&4 > 0 {
				c.Text = "p"
			}
			if parts&8 > 0 {
				c.Config = 1
			}
			want := kind >= 1 && kind <= 9
			for i, part := range strings.Fields("name path text config") {
				given := parts&(1<<i) > 0
				may := want && among(has[kind], part)
				want = want && (may || !given) && (part != "name" || given || !may)
			}
			checkCallOK(t, c, want)
			c.Path = append([]int{}, c.Path...)
			checkCallOK(t, c, want)
		}
	}
	for _, kind := range []int{math.MinInt, math.MaxInt, 1 << 32, 1<<32 + impl.ClGet, -1 << 32, -impl.ClGet, 16, 9 + 16, 256 + 9} {
		checkCallOK(t, impl.Call{Kind: kind}, false)
		checkCallOK(t, impl.Call{Kind: kind, Name: "p"}, false)
		checkCallOK(t, impl.Call{Kind: kind, Doc: 1}, false)
	}
	checkCallOK(t, impl.Call{}, false)
	checkCallOK(t, impl.Call{Name: "p", Text: "x"}, false)
}

func TestNumbersOfCalls(t *testing.T) {
	for _, n := range []int{math.MinInt, -1 << 32, -1, 0, 1, 2, 3, 4, 5, 6, 7, 60, 1 << 32, math.MaxInt} {
		for _, c := range callsOn(n) {
			checkCallOK(t, c, n >= 0 && n < impl.MaxDocs)
		}
		checkCallOK(t, setting(0, n, ""), n >= 0 && n < impl.MaxConfigs)
		checkCallOK(t, sanitizing(5, n), n >= 0 && n < impl.MaxConfigs)
		for _, c := range []impl.Call{getting(0), creating(0, "p"), taking(0), settingUnsafely(0, ""), addingWords(0, "", 0), addingElement(0, "p"), addingAttr(0, "p", "")} {
			c.Config = n
			checkCallOK(t, c, n == 0)
		}
	}
}

// pathed are calls of the kinds that have a Path.
func pathed(path ...int) []impl.Call {
	return []impl.Call{addingElement(0, "b", path...), addingWords(0, "x", path...), addingAttr(0, "id", "x", path...), taking(0, path...)}
}

func TestPathsOfCalls(t *testing.T) {
	long := slices.Repeat([]int{impl.MaxNodes}, impl.MaxDepth)
	for _, path := range [][]int{nil, {}, {0}, {1}, {59}, {60}, {0, 60}, {60, 0, 60}, long, zeros(impl.MaxDepth), append(zeros(9), 60)} {
		for _, c := range pathed(path...) {
			checkCallOK(t, c, true)
		}
	}
	for _, path := range [][]int{{61}, {-1}, {math.MinInt}, {math.MaxInt}, {1 << 32}, {-1 << 32}, {0, 61}, {61, 0}, {0, -1, 0}, append(zeros(9), 61), append(zeros(9), -1), zeros(11), append(long, 60), append(long, 61), zeros(impl.MaxList), zeros(impl.MaxList + 1), zeros(1 << 20)} {
		for _, c := range pathed(path...) {
			checkCallOK(t, c, false)
		}
	}
}

func TestTextsAndNamesOfCalls(t *testing.T) {
	texts := append(oddTexts(), harmTexts()...)
	for _, n := range []int{impl.MaxValue + 1, impl.MaxWords + 1, impl.MaxList - 1, impl.MaxList, impl.MaxList + 1, impl.MaxText, impl.MaxText + 1} {
		for _, piece := range []string{"x", "<", "\xff", "é"} {
			texts = append(texts, strings.Repeat(piece, n)[:n])
		}
	}
	for _, text := range texts {
		for _, c := range []impl.Call{addingWords(0, text, 0), addingAttr(0, "id", text, 0), setting(0, 0, text), settingUnsafely(0, text)} {
			checkCallOK(t, c, len(text) <= impl.MaxList)
		}
		for _, c := range []impl.Call{creating(0, "p"), addingElement(0, "p", 0), taking(0, 0), sanitizing(0, 0), getting(0)} {
			c.Text = text
			checkCallOK(t, c, text == "")
		}
	}
	for _, name := range slices.Concat(tagMembers(), wrongTags(), []string{"a-1234567890", "abcdefghijkl"}) {
		for _, c := range []impl.Call{creating(0, name), addingElement(0, name, 0), addingAttr(0, name, "", 0)} {
			checkCallOK(t, c, tagName.MatchString(name))
		}
		for _, c := range []impl.Call{addingWords(0, "x", 0), taking(0, 0), setting(0, 0, ""), settingUnsafely(0, ""), sanitizing(0, 0), getting(0)} {
			c.Name = name
			checkCallOK(t, c, name == "")
		}
	}
}

// TestCallOKChangesNothing has room behind the path.
func TestCallOKChangesNothing(t *testing.T) {
	for _, c := range slices.Concat(callsOn(0), pathed(zeros(11)...), pathed(61)) {
		c = callWithRoom(c)
		before := shownCalls([]impl.Call{c})
		list := []impl.Call{c}
		if impl.CallOK(c) != isCallBy(c) || shownCalls(list) != before || !reflect.DeepEqual(c, list[0]) {
			t.Errorf("CallOK changes %s", before)
		}
	}
}
