package tests

import (
	"fmt"
	"math/rand"
	"reflect"
	"slices"
	"strings"
	"testing"

	"loop.example/g00788/impl"
)

// ranBy reads RunCalls in another way than the program: by the calls one at a time.
func ranBy(configs []impl.Config, calls []impl.Call) (impl.House, []impl.Answer, int) {
	if len(configs) > 4096 || len(calls) > 4096 {
		return impl.House{}, nil, impl.ErrLong
	}
	if len(configs) > 4 {
		return impl.House{}, nil, impl.ErrMany
	}
	for _, c := range configs {
		if code := codeBy(c); code != impl.OK {
			return impl.House{}, nil, code
		}
	}
	switch {
	case len(calls) > 30:
		return impl.House{}, nil, impl.ErrMany
	case slices.ContainsFunc(calls, func(c impl.Call) bool { return !isCallBy(c) }):
		return impl.House{}, nil, impl.ErrBad
	}
	h := impl.House{Configs: configs}
	var list []impl.Answer
	for _, c := range calls {
		after, answer, _ := doneBy(h, c)
		h, list = after, append(list, answer)
	}
	return h, list, impl.OK
}

// checkRun holds RunCalls against the second reading. Its arguments have room behind their lists' ends: they stay as they are, and the answers share no memory with them, nor with each other.
func checkRun(t *testing.T, configs []impl.Config, calls []impl.Call) (impl.House, []impl.Answer, int) {
	t.Helper()
	want, due, dueCode := ranBy(configs, calls)
	configs, calls = configsWithRoom(mappedHouse(impl.House{Configs: configs}, withRoom, configWithRoom).Configs), callsWithRoom(calls)
	before := shownHouse(impl.House{Configs: configs}) + shownCalls(calls)
	h, list, code := impl.RunCalls(configs, calls)
	if showHouse(h) != showHouse(want) || !slices.Equal(list, due) || code != dueCode {
		t.Errorf("RunCalls of %d, %.900s\n= %.600s, %.300v, %d\nwant %.600s, %.300v, %d", len(configs), shownCalls(slices.Clip(calls)), showHouse(h), list, code, showHouse(want), due, dueCode)
	}
	lists := append(listsOfHouses(h, impl.House{Configs: configs}), reflect.ValueOf(calls), reflect.ValueOf(list))
	for _, c := range calls {
		lists = append(lists, reflect.ValueOf(c.Path))
	}
	checkApart(t, lists)
	spoilHouse(h)
	if shownHouse(impl.House{Configs: configs})+shownCalls(calls) != before {
		t.Errorf("RunCalls changes an argument, or shares memory with one: %.900s", before)
	}
	return want, due, dueCode
}

func TestRunsByHand(t *testing.T) {
	configs := []impl.Config{impl.DefaultConfig(), config("comments unwrap:u")}
	calls := []impl.Call{
		getting(0), creating(1, "div"), creating(0, "div"), creating(1, "style"), settingUnsafely(0, "<p onx=y>a<u>b</u><script>c</script>"), getting(0),
		addingWords(0, "", 0), setting(1, 0, "d>e"), addingWords(1, "<f>", 1), getting(1), sanitizing(1, 2), sanitizing(1, 1), getting(1), sanitizing(0, 1), getting(0),
		addingElement(0, "svg", 0, 1), addingAttr(0, "id", "g&", 0, 1), taking(0, 0, 0), taking(0, 5), getting(0), creating(2, "script"), setting(2, 0, "h"), creating(3, "br"), addingWords(3, "i", 0), setting(3, 1, "j"), getting(3),
	}
	want := []impl.Answer{
		{Code: impl.ErrHandle}, {Code: impl.ErrHandle}, {}, {}, {}, {Text: `<p onx="y">a<u>b</u><script>c</script></p>`},
		{Code: impl.ErrBad}, {}, {}, {Text: "d>e<f>"}, {Code: impl.ErrConfig}, {}, {}, {}, {Text: "<p>ab</p>"},
		{}, {}, {}, {Code: impl.ErrPlace}, {Text: `<p><svg id="g&amp;"></svg>b</p>`}, {}, {Code: impl.ErrUnsafe}, {}, {Code: impl.ErrFull}, {}, {},
	}
	h, list, code := checkRun(t, configs, calls)
	if !slices.Equal(list, want) || code != impl.OK || briefDocs(h) != `div{p[svg/svg id="g&"[] "b"]} style{} script{} br{}` {
		t.Errorf("RunCalls = %s, %v, %d", briefDocs(h), list, code)
	}
}

func TestRunsOfManyCalls(t *testing.T) {
	for _, n := range []int{0, 1, impl.MaxCalls - 1, impl.MaxCalls} {
		for k := range impl.MaxConfigs + 1 {
			h, list, code := checkRun(t, make([]impl.Config, k), slices.Repeat([]impl.Call{creating(0, "p")}, n))
			if len(h.Docs) != min(n, 1) || len(h.Configs) != k || len(list) != n || code != impl.OK {
				t.Errorf("RunCalls of %d, %d = %s, %v, %d", k, n, briefDocs(h), list, code)
			}
		}
	}
	if h, list, code := checkRun(t, nil, nil); len(h.Docs)+len(h.Configs)+len(list) != 0 || code != impl.OK {
		t.Error("RunCalls of none", h, list, code)
	}
	var calls []impl.Call
	for n := range impl.MaxCalls {
		calls = append(calls, creating(n%impl.MaxDocs, "p"))
	}
	if h, list, _ := checkRun(t, nil, calls); len(h.Docs) != impl.MaxDocs || list[5].Code != impl.OK || list[6].Code != impl.ErrFull || list[29].Code != impl.ErrFull {
		t.Error("RunCalls of as many as may be", briefDocs(h), list)
	}
}

// noCalls are wrong for one reason each.
func noCalls() []impl.Call {
	return []impl.Call{
		{}, {Kind: 10}, {Kind: -1}, getting(6), getting(-1), creating(0, "P"), creating(0, ""), addingElement(0, "b", 61), addingElement(0, "", 0), addingWords(0, "x", zeros(11)...), addingAttr(0, "A", "x", 0),
		taking(0, -1), setting(0, 4, ""), setting(0, -1, ""), setting(0, 0, long(impl.MaxList+1)), settingUnsafely(0, long(impl.MaxText+1)), sanitizing(0, 4), {Kind: impl.ClGet, Name: "p"}, {Kind: impl.ClGet, Text: "p"}, {Kind: impl.ClGet, Path: []int{0}},
		{Kind: impl.ClGet, Config: 1}, {Kind: impl.ClUnsafe, Config: 1}, {Kind: impl.ClWords, Name: "p", Text: "x", Path: []int{0}}, {Kind: impl.ClRemove, Path: []int{0}, Text: "x"}, {Kind: impl.ClCreate, Name: "p", Path: []int{0}},
	}
}

// TestFirstCodesOfRuns has configurations beside calls, each right, wrong, many and too many.
func TestFirstCodesOfRuns(t *testing.T) {
	right := config("comments")
	configs := map[int][][]impl.Config{
		impl.OK: {nil, {right}, slices.Repeat([]impl.Config{right}, 4)}, impl.ErrBad: {{config("attrs:A")}, {right, config("attrs:A"), config("data")}}, impl.ErrConfig: {{config("data")}, {right, config("data"), right, config("attrs:A")}},
		impl.ErrMany: {slices.Repeat([]impl.Config{right}, 5), slices.Repeat([]impl.Config{config("data")}, 5), make([]impl.Config, impl.MaxList)}, impl.ErrLong: {make([]impl.Config, impl.MaxList+1), slices.Repeat([]impl.Config{config("data")}, impl.MaxList+1)},
	}
	good := slices.Repeat([]impl.Call{creating(0, "p")}, impl.MaxCalls)
	calls := map[int][][]impl.Call{
		impl.OK: {nil, good[:1], good}, impl.ErrBad: {make([]impl.Call, 1), make([]impl.Call, impl.MaxCalls)},
		impl.ErrMany: {append(slices.Clip(good), good[0]), make([]impl.Call, impl.MaxCalls+1), make([]impl.Call, impl.MaxList)}, impl.ErrLong: {make([]impl.Call, impl.MaxList+1), slices.Repeat(good[:1], impl.MaxList+1), make([]impl.Call, 1<<18)},
	}
	for _, wrong := range noCalls() {
		calls[impl.ErrBad] = append(calls[impl.ErrBad], []impl.Call{wrong}, append(slices.Clone(good[:29]), wrong), append([]impl.Call{wrong}, good[:5]...))
		calls[impl.ErrMany] = append(calls[impl.ErrMany], append(slices.Clone(good), wrong))
	}
	for c1, firsts := range configs {
		for c2, seconds := range calls {
			due := c1
			if c1 == impl.OK || c2 == impl.ErrLong {
				due = c2
			}
			for _, first := range firsts {
				for _, second := range seconds {
					h, list, code := impl.RunCalls(first, second)
					_, _, by := ranBy(first, second)
					if code != due || by != due || due != impl.OK && len(h.Docs)+len(h.Configs)+len(list) != 0 || due == impl.OK && len(list) != len(second) {
						t.Errorf("RunCalls of %d, %d has code %d, by the second reading %d, want %d: %s %v", len(first), len(second), code, by, due, showHouse(h), list)
					}
				}
			}
			for _, second := range seconds {
				safe, code := impl.SafeDocs(second)
				if code != c2 || (len(safe) == 0) != (c2 != impl.OK) {
					t.Errorf("SafeDocs of %d = %v, %d, want %d", len(second), safe, code, c2)
				}
			}
		}
	}
}

func checkSafe(t *testing.T, calls []impl.Call, want string) {
	t.Helper()
	calls = callsWithRoom(calls)
	before := shownCalls(calls)
	safe, code := impl.SafeDocs(calls)
	told := strings.NewReplacer("true", "+", "false", "-", "[", "", "]", "", " ", "").Replace(fmt.Sprint(safe))
	if told != want || code != impl.OK || shownCalls(calls) != before {
		t.Errorf("SafeDocs of %.500s = %s, %d, want %s", before, told, code, want)
	}
}

func TestSafeDocs(t *testing.T) {
	checkSafe(t, nil, "++++++")
	checkSafe(t, []impl.Call{}, "++++++")
	var all, safe []impl.Call
	for n := range impl.MaxDocs {
		for _, c := range callsOn(n) {
			want := []byte("++++++")
			if among("2 3 4 7", fmt.Sprint(c.Kind)) {
				want[n] = '-'
				all = append(all, c)
			} else {
				safe = append(safe, c)
			}
			checkSafe(t, []impl.Call{c}, string(want))
			checkSafe(t, []impl.Call{c, c, getting(5), setting(0, 0, "<script>"), c}, string(want))
			checkSafe(t, slices.Repeat([]impl.Call{c}, impl.MaxCalls), string(want))
		}
	}
	checkSafe(t, all, "------")
	checkSafe(t, safe, "++++++")
	checkSafe(t, []impl.Call{settingUnsafely(1, ""), taking(0), addingWords(4, "", 60), sanitizing(1, 3), sanitizing(4, 0)}, "+-++-+")
	checkSafe(t, []impl.Call{addingAttr(0, "id", ""), addingElement(5, "b")}, "-++++-")
	first, _ := impl.SafeDocs(safe)
	first = first[:cap(first)]
	for i := range first {
		first[i] = false
	}
	checkSafe(t, safe, "++++++")
}

// anyCall is right for the most part, and does something for the most part.
func (g *grower) anyCall(h impl.House) impl.Call {
	place := g.Intn(impl.MaxDocs)
	if many := len(h.Docs); many > 0 && g.Intn(12) > 0 {
		place = g.Intn(many)
	}
	if len(h.Docs) < 3 && g.Intn(2) == 0 {
		return creating(len(h.Docs)+g.Intn(10)/9, g.pick(append(tagMembers(), strings.Fields("div p style style xmp xmp svg script br")...)...))
	}
	var kids []impl.Node
	if place < len(h.Docs) {
		kids = h.Docs[place].Kids
	}
	switch kind := g.Intn(12); kind {
	case 0:
		return creating(max(len(h.Docs)-g.Intn(4)/3, 0)%impl.MaxDocs, g.pick(tagMembers()...))
	case 1:
		return addingElement(place, g.pick(append(tagMembers(), "svg", "math", "b", "p", "style")...), g.anyCallPath(kids)...)
	case 2:
		return addingWords(place, g.text()+g.pick("", "w"+strings.Repeat("w", g.Intn(130)), "w"), g.anyCallPath(kids)...)
	case 3:
		return addingAttr(place, g.pick("href", "src", "class", "id", "onclick", "title", "data-x"), g.pick("", "javascript:", strings.Repeat("v", 30))+g.text(), g.anyCallPath(kids)...)
	case 4:
		return taking(place, g.anyCallPath(kids)...)
	case 5, 6:
		return setting(place, g.Intn(impl.MaxConfigs), g.anyDocText())
	case 7, 8:
		return settingUnsafely(place, g.anyDocText())
	case 9:
		return sanitizing(place, g.Intn(impl.MaxConfigs))
	}
	return getting(place)
}

// anyCallPath is such as a call may have.
func (g *grower) anyCallPath(nodes []impl.Node) []int {
	path := g.anyPath(nodes)
	for i, place := range path {
		path[i] = min(max(place, 0), impl.MaxNodes)
	}
	return path[:min(len(path), impl.MaxDepth)]
}

func (g *grower) anyDocText() string {
	switch g.Intn(4) {
	case 0:
		return g.text()
	case 1:
		return anyBuildText(g.Rand, 150, widePieces())
	}
	return anyHarmText(g.Rand)
}

// safeCall is one that a document may be filled by, and be clean.
func (g *grower) safeCall(h impl.House) impl.Call {
	for {
		c := g.anyCall(h)
		if !among("2 3 4 7", fmt.Sprint(c.Kind)) {
			return c
		}
	}
}

// fourConfigs are right ones.
func fourConfigs(i int) []impl.Config {
	wide, right, any := wideConfigs(), rightConfigs(), anyConfig(rand.New(rand.NewSource(int64(i))))
	return []impl.Config{wide[i%len(wide)], right[i%len(right)], any, wide[(i*3+1)%len(wide)]}[:impl.MaxConfigs-i%7/6]
}

// TestAnyCalls makes one call behind the other, and holds each against the second reading.
func TestAnyCalls(t *testing.T) {
	told := map[int]map[int]int{}
	for i := range 250 {
		g := newGrower(int64(i), 0)
		h := impl.House{Configs: fourConfigs(i)}
		for range 40 {
			c := g.anyCall(h)
			after, answer, code := doneBy(h, c)
			checkCall(t, h, c, after, answer, code)
			if told[c.Kind] == nil {
				told[c.Kind] = map[int]int{}
			}
			told[c.Kind][answer.Code]++
			h = after
		}
	}
	for kind, codes := range [][]int{
		1: {impl.OK, impl.ErrFull, impl.ErrHandle}, 2: {impl.OK, impl.ErrPlace, impl.ErrFull, impl.ErrHandle}, 3: {impl.OK, impl.ErrBad, impl.ErrPlace, impl.ErrFull, impl.ErrHandle}, 4: {impl.OK, impl.ErrBad, impl.ErrPlace, impl.ErrKind, impl.ErrHandle}, 5: {impl.OK, impl.ErrPlace, impl.ErrHandle},
		6: {impl.OK, impl.ErrHandle, impl.ErrConfig, impl.ErrUnsafe, impl.ErrSize, impl.ErrMany}, 7: {impl.OK, impl.ErrHandle, impl.ErrSize, impl.ErrMany}, 8: {impl.OK, impl.ErrHandle, impl.ErrConfig}, 9: {impl.OK, impl.ErrHandle},
	} {
		for _, code := range codes {
			if told[kind][code] < 5 {
				t.Error("too few of one sort", kind, code, told[kind])
			}
		}
	}
}

// TestAnyRuns is promise 14: the answers of the first calls are the same, whatever calls come behind; with a code nothing is changed.
func TestAnyRuns(t *testing.T) {
	refused := 0
	for i := range 120 {
		g := newGrower(int64(500+i), 0)
		configs := fourConfigs(i)
		var calls []impl.Call
		ahead := impl.House{Configs: configs}
		for len(calls) < impl.MaxCalls {
			calls = append(calls, g.anyCall(ahead))
			h, list, code := impl.RunCalls(configs, calls)
			last := list[len(list)-1]
			if code != impl.OK || last.Code != impl.OK && (!impl.SameHouse(h, ahead) || showHouse(h) != showHouse(ahead) || last.Text != "") {
				t.Errorf("%s, with %d, changes %s to %s", showCall(calls[len(calls)-1]), last.Code, briefDocs(ahead), briefDocs(h))
			}
			if last.Code != impl.OK {
				refused++
			}
			done, answer, _ := impl.DoCall(ahead, calls[len(calls)-1])
			if showHouse(done) != showHouse(h) || answer != last {
				t.Errorf("DoCall and RunCalls differ: %s, %v; %s, %v", briefDocs(done), answer, briefDocs(h), last)
			}
			ahead = h
		}
		_, all, _ := checkRun(t, configs, calls)
		for n := range calls {
			_, first, _ := impl.RunCalls(configs, calls[:n])
			_, other, _ := impl.RunCalls(configs, append(slices.Clone(calls[:n]), g.otherCalls(ahead, impl.MaxCalls-n)...))
			if !slices.Equal(first, all[:n]) || !slices.Equal(other[:n], all[:n]) {
				t.Errorf("the first %d answers hang on later calls: %v, %v, %v", n, first, other, all)
			}
		}
	}
	if refused < 300 {
		t.Error("too few of one sort", refused)
	}
}

func (g *grower) otherCalls(h impl.House, n int) []impl.Call {
	var calls []impl.Call
	for range n {
		calls = append(calls, g.anyCall(h))
	}
	return calls
}

// checkFilledSafely is promise 15 for the documents that SafeDocs tells; it answers how many nodes these have.
func checkFilledSafely(t *testing.T, configs []impl.Config, calls []impl.Call) (nodes, unsafe int) {
	t.Helper()
	h, _, _ := impl.RunCalls(configs, calls)
	safe, code := impl.SafeDocs(calls)
	if code != impl.OK || len(safe) != impl.MaxDocs {
		t.Errorf("SafeDocs = %v, %d", safe, code)
	}
	for i, d := range h.Docs {
		if !safe[i] {
			unsafe++
			continue
		}
		checkClean(t, d.Kids)
		if among(rawNames, d.Name) && strings.Contains(gottenBy(d), "<") {
			t.Errorf("a raw document that only safe calls have filled has markup: %s", show(d.Kids))
		}
		nodes += len(listed(d.Kids))
	}
	return nodes, unsafe
}

func TestDocsFilledSafely(t *testing.T) {
	nodes, unsafe := 0, 0
	for i := range 800 {
		g := newGrower(int64(900+i), 0)
		configs := fourConfigs(i)
		h := impl.House{Configs: configs}
		var calls []impl.Call
		for len(calls) < impl.MaxCalls {
			c := g.safeCall(h)
			if len(h.Docs) > 0 && g.Intn(4) == 0 && i%2 == 0 {
				c = g.anyCall(h)
				c.Doc = min(c.Doc, len(h.Docs)/2)
			}
			calls = append(calls, c)
			h, _, _ = impl.DoCall(h, c)
		}
		a, b := checkFilledSafely(t, configs, calls)
		nodes, unsafe = nodes+a, unsafe+b
	}
	for i, text := range harmTexts() {
		for _, name := range strings.Fields("div svg math style xmp br script object title li") {
			a, _ := checkFilledSafely(t, fourConfigs(i), []impl.Call{creating(0, name), setting(0, i%3, text), sanitizing(0, (i+1)%3), setting(0, 1, text), taking(0, 0), getting(0)})
			nodes += a
		}
	}
	if nodes < 4000 || unsafe < 500 {
		t.Error("too few of one sort", nodes, unsafe)
	}
}
