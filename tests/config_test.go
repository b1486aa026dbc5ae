package tests

import (
	"math"
	"reflect"
	"slices"
	"strings"
	"testing"

	"loop.example/g00788/impl"
)

func TestNumbersOfConfigs(t *testing.T) {
	if impl.MaxRules != 10 {
		t.Error("MaxRules", impl.MaxRules)
	}
}

// wrongSpaces are none, such too as are one in fewer bits.
func wrongSpaces() []int {
	return []int{-1, 3, 4, 255, 256, 257, 1 << 16, 1 << 32, 1<<32 + 1, 1<<32 + 2, -1 << 32, math.MinInt, math.MaxInt}
}

// wrongNameLists are no names, for one reason each.
func wrongNameLists() [][]string {
	lists := [][]string{
		{"id", "id"}, {"id", "class", "id"}, {"class", "id", "id"}, {"on", "a", "b", "c", "d", "e", "f", "g", "h", "on"},
		numbered("a", 11), numbered("a", impl.MaxList+1), slices.Repeat([]string{"a"}, 11), make([]string, 1<<20), slices.Repeat([]string{"a"}, 1<<20),
		{strings.Repeat("a", impl.MaxText+1)}, {"id", strings.Repeat("\xff", impl.MaxText+1)},
	}
	for _, name := range wrongTags() {
		lists = append(lists, []string{name}, []string{name, "id"}, []string{"id", "class", name}, append(numbered("a", 9), name))
	}
	return lists
}

func rightNameLists() [][]string {
	lists := [][]string{nil, {}, {"id"}, {"id", "class"}, {"z", "y", "x"}, {"a", "a-", "aa", "a0"}, {"onclick", "on", "data-", "data-x"}, numbered("a", 9), numbered("a", 10), numbered("abcdefghijk", 10)}
	for _, name := range tagMembers() {
		lists = append(lists, []string{name}, append(numbered("a", 9), name))
	}
	return lists
}

func wrongRules() []impl.Rule {
	list := []impl.Rule{{}, {Space: 1}, {Attrs: []string{"id"}}, {Name: strings.Repeat("a", impl.MaxText+1)}}
	for _, space := range wrongSpaces() {
		list = append(list, impl.Rule{Space: space, Name: "p"}, impl.Rule{Space: space, Name: "p", Attrs: []string{"id"}})
	}
	for _, name := range wrongTags() {
		list = append(list, impl.Rule{Space: len(list) % 3, Name: name})
	}
	for _, names := range wrongNameLists() {
		list = append(list, impl.Rule{Space: len(list) % 3, Name: "p", Attrs: names})
	}
	return list
}

func TestRules(t *testing.T) {
	for _, names := range rightNameLists() {
		for _, name := range append(tagMembers(), "a", "z-", "a-1234567890", "abcdefghijkl") {
			for space := range 3 {
				if r := (impl.Rule{Space: space, Name: name, Attrs: names}); !impl.RuleOK(r) {
					t.Errorf("RuleOK does not tell %v", r)
				}
			}
		}
	}
	for _, r := range wrongRules() {
		if impl.RuleOK(r) {
			t.Errorf("RuleOK tells %.100q of space %d", r.Name, r.Space)
		}
	}
}

func checkCode(t *testing.T, c impl.Config, want int) {
	t.Helper()
	if code := impl.CheckConfig(c); code != want {
		t.Errorf("CheckConfig(%.300s) = %d, want %d", showConfig(c), code, want)
	}
}

func TestRightConfigs(t *testing.T) {
	for _, c := range rightConfigs() {
		checkCode(t, c, impl.OK)
		checkCode(t, configWithRoom(c), impl.OK)
		if codeBy(c) != impl.OK {
			t.Errorf("the second reading has a code of %s", showConfig(c))
		}
	}
}

// TestListsOfConfigs has each list, of each length about MaxRules, and of very many elements.
func TestListsOfConfigs(t *testing.T) {
	for _, n := range []int{0, 1, 2, 9, 10, 11, 12, 100, impl.MaxList, impl.MaxList + 1, 1 << 18} {
		want := impl.OK
		if n > 10 {
			want = impl.ErrBad
		}
		checkCode(t, impl.Config{HasAllow: true, Allow: numberedRules("a", n)}, want)
		checkCode(t, impl.Config{Remove: numberedRules("a", n)}, want)
		checkCode(t, impl.Config{Unwrap: numberedRules("a", n)}, want)
		checkCode(t, impl.Config{HasAttrs: true, Attrs: numbered("a", n)}, want)
		checkCode(t, impl.Config{Drop: numbered("a", n)}, want)
		checkCode(t, impl.Config{HasAllow: true, HasAttrs: true, Allow: []impl.Rule{{Name: "p", Attrs: numbered("a", n)}}}, want)
	}
	checkCode(t, impl.Config{HasAllow: true, HasAttrs: true, Allow: numberedRules("a", 10, numbered("x", 10)...), Unwrap: numberedRules("b", 10), Attrs: numbered("y", 10), Comments: true, Data: true}, impl.OK)
	checkCode(t, impl.Config{Remove: numberedRules("a", 10), Unwrap: numberedRules("b", 10), Drop: numbered("y", 10), Comments: true}, impl.OK)
}

// badConfigs are such as are none, for one reason each, but have nothing that contradicts itself.
func badConfigs() []impl.Config {
	var list []impl.Config
	for _, told := range []string{
		"allow:p,p", "allow:p,b,p", "allow:b,p,p", "allow:svg/p,svg/p", "allow:math/p,p,svg/p,math/p", "allow:p+id,p attrs:", "allow:p,p+id attrs:", "allow:p+id,p+class attrs:",
		"remove:p,p", "remove:svg/p,b,svg/p", "remove:math/p,math/p", "unwrap:p,p", "unwrap:p,b,p", "unwrap:svg/p,svg/p", "unwrap:p,math/p,math/p",
		"remove:p+id", "remove:p,b+id", "remove:script+src", "unwrap:p+id", "unwrap:p,b+id,i", "unwrap:svg/p+id+class", "unwrap:script+src", "remove:p+id attrs:", "unwrap:p+id attrs:",
		"attrs:id,id", "attrs:id,class,id", "drop:id,id", "drop:class,id,id", "allow:p+id+id attrs:", "allow:b,p+id+class+id attrs:",
		"allow:P", "remove:P", "unwrap:P", "attrs:ID", "drop:ID", "allow:p+ID attrs:",
	} {
		list = append(list, config(told))
	}
	for _, r := range wrongRules() {
		list = append(list,
			impl.Config{HasAllow: true, HasAttrs: true, Allow: []impl.Rule{r}},
			impl.Config{HasAllow: true, HasAttrs: true, Allow: append(numberedRules("a", 9), r)},
			impl.Config{Remove: []impl.Rule{{Name: "b"}, r, {Name: "i"}}},
			impl.Config{Unwrap: []impl.Rule{r, {Name: "b"}}},
		)
	}
	for _, names := range wrongNameLists() {
		list = append(list, impl.Config{HasAttrs: true, Attrs: names}, impl.Config{Drop: names})
	}
	return list
}

// TestElementsOfRules holds that rules of one list differ in Space or in Name: Attrs do not count.
func TestElementsOfRules(t *testing.T) {
	for _, list := range []string{"allow:", "remove:", "unwrap:"} {
		for space, ahead := range []string{"", "svg/", "math/"} {
			for other, behind := range []string{"", "svg/", "math/"} {
				want := impl.OK
				if space == other {
					want = impl.ErrBad
				}
				checkCode(t, config(list+ahead+"p,"+behind+"p"), want)
				checkCode(t, config(list+ahead+"p,b,"+behind+"p,i"), want)
				checkCode(t, config(list+ahead+"p,"+behind+"b"), impl.OK)
				if list == "allow:" {
					checkCode(t, config("attrs: allow:"+ahead+"p+id,"+behind+"p+class"), want)
					checkCode(t, config("attrs: allow:"+ahead+"p+id,"+behind+"b+id"), impl.OK)
				}
			}
		}
	}
}

// contradictions have one each, of elements and attributes of their own, and what they would be without it.
func contradictions() map[string][]string {
	return map[string][]string{
		"allow-:p":                         {"allow:p", ""},
		"allow-:p2,p3,math/p2":             {"allow:p2,p3,math/p2"},
		"allow: remove:q":                  {"remove:q", "allow:q", "allow:"},
		"allow:q2 remove:q3":               {"allow:q2", "remove:q3"},
		"attrs-:id":                        {"attrs:id", "drop:id", ""},
		"data":                             {"attrs: data", ""},
		"attrs: drop:class":                {"attrs:class", "drop:class", "attrs:"},
		"attrs:style data drop:lang":       {"attrs:style data", "drop:lang"},
		"allow:u unwrap:u":                 {"allow:u", "unwrap:u", "allow:u unwrap:svg/u", "allow:math/u unwrap:u", "allow:u unwrap:uu"},
		"allow:svg/u2 unwrap:svg/u2":       {"allow:svg/u2 unwrap:u2", "allow:svg/u2 unwrap:math/u2"},
		"allow:u3+dir attrs: unwrap:u3":    {"allow:u3+dir attrs: unwrap:svg/u3", "allow:u3+dir attrs:"},
		"allow:u4 unwrap:a,u5,u4":          {"allow:u4 unwrap:a,u5"},
		"allow:x,y,script unwrap:z,script": {"allow:x,y,script unwrap:z,svg/script"},
		"remove:r unwrap:r":                {"remove:r", "unwrap:r", "remove:r unwrap:svg/r", "remove:math/r unwrap:r,svg/r"},
		"remove:r2,math/r3 unwrap:math/r3": {"remove:r2,math/r3 unwrap:r3,svg/r3,math/r2"},
		"allow:v+title":                    {"allow:v", "allow:v+title attrs:"},
		"allow:v1,v2,svg/v3+onclick":       {"allow:v1,v2,svg/v3"},
		"attrs:alt allow:w+alt":            {"attrs:alt allow:w", "attrs: allow:w+alt", "attrs:alt allow:w+alt2"},
		"attrs:c1,c2,c3 allow:w1,w2+c4+c3": {"attrs:c1,c2,c3 allow:w1,w2+c4", "attrs:c1,c2 allow:w1+c3,w2+c4+c3"},
		"attrs:onload allow:w4+onload":     {"attrs:onload allow:w4+onloads"},
	}
}

func TestContradictions(t *testing.T) {
	for told, cured := range contradictions() {
		checkCode(t, config(told), impl.ErrConfig)
		for _, other := range append(cured, "", "comments") {
			checkCode(t, config(other), impl.OK)
		}
		for more := range contradictions() {
			if more != told {
				checkCode(t, merged(config(told), config(more)), impl.ErrConfig)
			}
		}
	}
}

// TestContradictionsAtAnyPlace have lists of ten, that contradict each other in one place each.
func TestContradictionsAtAnyPlace(t *testing.T) {
	for i := range 10 {
		for k := range 10 {
			shared := impl.Rule{Space: i % 3, Name: "shared"}
			unwrap, ruled := numberedRules("u", 10), numberedRules("a", 10)
			unwrap[i], ruled[k] = shared, shared
			checkCode(t, impl.Config{Unwrap: unwrap, Remove: ruled}, impl.ErrConfig)
			checkCode(t, impl.Config{Unwrap: unwrap, HasAllow: true, Allow: ruled}, impl.ErrConfig)
			ruled[k].Space = (i + 1) % 3
			checkCode(t, impl.Config{Unwrap: unwrap, Remove: ruled}, impl.OK)
			checkCode(t, impl.Config{Unwrap: unwrap, HasAllow: true, Allow: ruled}, impl.OK)

			named := numberedRules("a", 10)
			named[k].Attrs = append(numbered("x", i), "y0")
			checkCode(t, impl.Config{HasAllow: true, Allow: named}, impl.ErrConfig)
			for at := range 10 {
				attrs := numbered("z", 10)
				attrs[at] = "y0"
				checkCode(t, impl.Config{HasAllow: true, HasAttrs: true, Allow: named, Attrs: attrs}, impl.ErrConfig)
			}
			checkCode(t, impl.Config{HasAllow: true, HasAttrs: true, Allow: named, Attrs: numbered("z", 10)}, impl.OK)
		}
	}
}

// TestBadConfigs has them by themselves, and beside what contradicts itself.
func TestBadConfigs(t *testing.T) {
	for _, c := range badConfigs() {
		checkCode(t, c, impl.ErrBad)
		for _, told := range []string{"allow-:k", "allow: remove:k", "attrs-:k", "data", "attrs: drop:k", "allow:k unwrap:k", "remove:k unwrap:k", "allow:k+k", "attrs:k allow:k+k"} {
			checkCode(t, merged(c, config(told)), impl.ErrBad)
			checkCode(t, merged(config(told), c), impl.ErrBad)
		}
	}
}

// TestCodesOfChangedConfigs holds CheckConfig against the second reading.
func TestCodesOfChangedConfigs(t *testing.T) {
	codes := map[int]int{}
	for _, c := range append(rightConfigs(), anyConfigs(300)...) {
		checkCode(t, c, impl.OK)
		for _, x := range changedConfigs(c) {
			want := codeBy(x)
			codes[want]++
			checkCode(t, x, want)
		}
	}
	if codes[impl.OK] < 1000 || codes[impl.ErrBad] < 1000 || codes[impl.ErrConfig] < 1000 {
		t.Error("too few of one sort", codes)
	}
}

func TestDefaultConfig(t *testing.T) {
	var want impl.Config
	want.HasAllow, want.HasAttrs = true, true
	for _, name := range strings.Fields("p div b i a ul li br h1 table") {
		want.Allow = append(want.Allow, impl.Rule{Space: impl.SpHtml, Name: name})
	}
	want.Allow[4].Attrs = []string{"href"}
	want.Attrs = []string{"class", "id", "title"}
	c := impl.DefaultConfig()
	if showConfig(c) != showConfig(want) {
		t.Errorf("DefaultConfig is %s", showConfig(c))
	}
	checkCode(t, c, impl.OK)
	spoilConfig(c)
	if again := impl.DefaultConfig(); showConfig(again) != showConfig(want) {
		t.Errorf("DefaultConfig is %s then", showConfig(again))
	}
	first, second := impl.DefaultConfig(), impl.DefaultConfig()
	checkApart(t, append(listsOf(first), listsOf(second)...))
}

func checkSame(t *testing.T, a, b impl.Config, want bool) {
	t.Helper()
	if impl.SameConfig(a, b) != want || impl.SameConfig(b, a) != want {
		t.Errorf("SameConfig is not %v of %.300s and %.300s", want, showConfig(a), showConfig(b))
	}
}

func TestSameConfigs(t *testing.T) {
	list := append(rightConfigs(), anyConfigs(60)...)
	for _, a := range list {
		for _, copied := range []impl.Config{a, copiedConfig(a), configWithRoom(a)} {
			checkSame(t, a, copied, true)
			checkSame(t, configWithRoom(a), copied, true)
		}
		for _, b := range list {
			checkSame(t, a, b, showConfig(a) == showConfig(b))
		}
		for _, b := range changedConfigs(a) {
			checkSame(t, a, b, showConfig(a) == showConfig(b))
			checkSame(t, b, copiedConfig(b), codeBy(b) == impl.OK)
		}
	}
}

func TestSameConfigsByHand(t *testing.T) {
	empty := impl.Config{Allow: []impl.Rule{}, Remove: []impl.Rule{}, Unwrap: []impl.Rule{}, Attrs: []string{}, Drop: []string{}}
	checkSame(t, impl.Config{}, empty, true)
	checkSame(t, config("remove:p"), impl.Config{Remove: []impl.Rule{{Name: "p", Attrs: []string{}}}}, true)
	for _, v := range []struct {
		a, b string
		same bool
	}{
		{"", "comments", false}, {"", "allow:", false}, {"", "attrs:", false}, {"allow:", "attrs:", false}, {"attrs:", "attrs: data", false},
		{"allow:p,b", "allow:p,b", true}, {"allow:p,b", "allow:b,p", false}, {"allow:p", "allow:svg/p", false}, {"allow:p", "allow:p,b", false},
		{"allow:p attrs:", "allow:p+id attrs:", false}, {"allow:p+id+class attrs:", "allow:p+class+id attrs:", false}, {"allow:p+id attrs:", "allow:p attrs:id", false},
		{"remove:p,b", "remove:p,b", true}, {"remove:p,b", "remove:b,p", false}, {"remove:p", "unwrap:p", false}, {"unwrap:p,b", "unwrap:b,p", false},
		{"attrs:id,class", "attrs:class,id", false}, {"drop:id,class", "drop:class,id", false}, {"drop:id", "drop:class", false}, {"attrs:id", "drop:id", false},
		{"data", "data", false}, {"allow-:p", "allow-:p", false}, {"attrs:ID", "attrs:ID", false}, {"drop:id,id", "drop:id,id", false}, {"allow:p unwrap:p", "allow:p unwrap:p", false},
	} {
		checkSame(t, config(v.a), config(v.b), v.same)
	}
}

// TestConfigsWithACodeAreLikeNone holds it of themselves, too.
func TestConfigsWithACodeAreLikeNone(t *testing.T) {
	wrong := badConfigs()
	for told := range contradictions() {
		wrong = append(wrong, config(told))
	}
	for _, c := range wrong {
		checkSame(t, c, c, false)
		checkSame(t, c, copiedConfig(c), false)
		checkSame(t, c, impl.Config{}, false)
		checkSame(t, c, impl.DefaultConfig(), false)
		if x, code := impl.Canonical(c); code != codeBy(c) || !reflect.DeepEqual(x, impl.Config{}) {
			t.Errorf("Canonical(%.300s) = %.300s, %d", showConfig(c), showConfig(x), code)
		}
	}
}
