package tests

import (
	"math"
	"math/rand"
	"slices"
	"strings"
	"testing"

	"loop.example/g00788/impl"
)

// checkBegins holds what ends, what is left, and the Space of an element that begins.
func checkBegins(t *testing.T, stack []impl.Open, name string, ends, space int) {
	t.Helper()
	if n, code := impl.Implied(stack, name); n != ends || code != impl.OK {
		t.Errorf("Implied(%.200v, %q) = %d, %d, want %d", stack, name, n, code, ends)
	}
	if left, own, code := impl.PlaceOf(stack, name); left != len(stack)-ends || own != space || code != impl.OK {
		t.Errorf("PlaceOf(%.200v, %q) = %d, %d, %d, want %d, %d", stack, name, left, own, code, len(stack)-ends, space)
	}
}

func breakers() []string { return strings.Fields("p div b i br img ul li table h1") }

// staying are names that break out of nothing.
func staying() []string {
	names := strings.Fields("g x pp para lis bi di h a-1 twelveletter")
	for _, name := range tagMembers() {
		if !slices.Contains(breakers(), name) {
			names = append(names, name)
		}
	}
	return names
}

func TestElementsThatBreakOut(t *testing.T) {
	for _, name := range breakers() {
		for _, v := range []struct {
			stack string
			ends  int
		}{
			{"", 0}, {"a", 0}, {"a b div", 0},
			{"svg/svg", 1}, {"math/math", 1}, {"svg/g", 1}, {"math/b", 1},
			{"svg/svg svg/g svg/g", 3}, {"svg/svg math/math math/mi svg/svg", 4},
			{"a svg/svg", 1}, {"a b svg/svg svg/g", 2}, {"a math/math svg/svg math/mi", 3},
			{"svg/svg a", 0}, {"svg/svg a svg/g", 1}, {"a svg/svg svg/g b svg/svg math/math", 2}, {"svg/svg svg/p svg/li", 3},
			{"a svg/" + name, 1}, {"math/" + name + " math/" + name, 2},
		} {
			checkBegins(t, open(v.stack), name, v.ends, impl.SpHtml)
		}
	}
	for _, name := range staying() {
		for _, stack := range []string{"", "svg/svg", "math/math", "a svg/svg svg/g", "p svg/svg", "li svg/p", "svg/svg math/li", "p", "li", "li p", "p li", "svg/svg a"} {
			stack := open(stack)
			checkBegins(t, stack, name, 0, spaceBy(toldOpen(stack), name))
		}
	}
}

// TestParagraphsAndItems are the ends of p and of li, whatever lies around them.
func TestParagraphsAndItems(t *testing.T) {
	for _, ahead := range []string{"", "a ", "p ", "li ", "ul li ", "svg/svg ", "svg/svg svg/p math/li "} {
		for _, behind := range []string{"", " svg/svg", " math/math math/li svg/p"} {
			foreign := len(strings.Fields(behind))
			for _, name := range append(breakers(), staying()...) {
				breaks := slices.Contains(breakers(), name)
				for _, inner := range []string{"p", "li", "a", "b", "div", "ul"} {
					ends := 0
					if breaks {
						ends += foreign
					}
					ended := inner == "p" && among("p div ul table h1", name) || inner == "li" && name == "li"
					if ended {
						ends++
					}
					stack := open(ahead + inner + behind)
					left := stack[:len(stack)-ends]
					checkBegins(t, stack, name, ends, spaceBy(toldOpen(left), name))
				}
			}
		}
	}
}

func TestElementsThatEndByHand(t *testing.T) {
	for _, v := range []struct {
		stack, name string
		ends, space int
	}{
		{"", "p", 0, 0}, {"", "svg", 0, 1}, {"", "math", 0, 2}, {"", "g", 0, 0},
		{"p", "p", 1, 0}, {"p", "div", 1, 0}, {"p", "ul", 1, 0}, {"p", "table", 1, 0}, {"p", "h1", 1, 0},
		{"p", "b", 0, 0}, {"p", "i", 0, 0}, {"p", "br", 0, 0}, {"p", "img", 0, 0}, {"p", "li", 0, 0}, {"p", "a", 0, 0}, {"p", "svg", 0, 1},
		{"p p", "p", 1, 0}, {"p p p", "div", 1, 0}, {"p b", "p", 0, 0}, {"p a p", "p", 1, 0},
		{"li", "li", 1, 0}, {"li li", "li", 1, 0}, {"li b", "li", 0, 0}, {"ul li", "ul", 0, 0}, {"li", "p", 0, 0},
		{"li p", "p", 1, 0}, {"li p", "li", 0, 0}, {"p li", "li", 1, 0}, {"p li", "p", 0, 0},
		{"svg/p", "p", 1, 0}, {"svg/li", "li", 1, 0}, {"svg/p", "x", 0, 1}, {"svg/li", "x", 0, 1}, {"svg/p", "svg", 0, 1}, {"math/p", "svg", 0, 1}, {"svg/p", "math", 0, 2},
		{"p svg/p", "p", 2, 0}, {"p svg/p", "b", 1, 0}, {"li svg/li", "li", 2, 0}, {"li svg/svg math/math", "li", 3, 0}, {"li p svg/svg", "li", 1, 0}, {"p li svg/svg", "li", 2, 0},
		{"p svg/svg p svg/svg", "p", 2, 1}, {"math/math p svg/svg", "div", 2, 2}, {"svg/svg li math/li", "li", 2, 1}, {"svg/svg p", "p", 1, 1}, {"math/math li", "li", 1, 2},
		{"svg/svg a", "x", 0, 0}, {"a svg/svg", "x", 0, 1}, {"math/math svg/svg math/math", "x", 0, 2}, {"svg/svg", "style", 0, 1}, {"math/math", "svg", 0, 1}, {"svg/svg", "math", 0, 2},
	} {
		checkBegins(t, open(v.stack), v.name, v.ends, v.space)
	}
}

// TestEndsInTurn follows what is open while elements begin, each of which stays open.
func TestEndsInTurn(t *testing.T) {
	for _, v := range [][2]string{
		{"ul li p p li li p", "ul li p li p"},
		{"li p li p div li", "li p li div li"},
		{"p svg g p svg li", "p li"},
		{"svg p math li li table", "p li table"},
	} {
		var stack []impl.Open
		for _, name := range strings.Fields(v[0]) {
			left, space, code := impl.PlaceOf(stack, name)
			if code != impl.OK {
				t.Fatalf("PlaceOf(%v, %q) has code %d", stack, name, code)
			}
			stack = append(stack[:left], impl.Open{Name: name, Space: space})
		}
		if want := open(v[1]); !slices.Equal(stack, want) {
			t.Errorf("of %q are open %v, want %v", v[0], stack, want)
		}
	}
}

// checkStack holds the calls against the other reading.
func checkStack(t *testing.T, stack []impl.Open, name string) {
	t.Helper()
	told := toldOpen(stack)
	left := leftBy(told, name)
	checkBegins(t, stack, name, len(stack)-strings.Count(left, " "), spaceBy(left, name))
	place, want := 0, impl.ErrNone
	if cut := strings.LastIndex(told, " "+name+"/"); cut >= 0 {
		place, want = strings.Count(told[:cut], " "), impl.OK
	}
	if got, code := impl.CloseAt(stack, name); got != place || code != want {
		t.Errorf("CloseAt(%v, %q) = %d, %d, want %d, %d", stack, name, got, code, place, want)
	}
}

func TestStacksOfAnyElements(t *testing.T) {
	var opens []impl.Open
	for _, name := range []string{"p", "li", "a", "svg"} {
		for space := range 3 {
			opens = append(opens, impl.Open{Name: name, Space: space})
		}
	}
	stacks := [][]impl.Open{nil}
	for from := 0; len(stacks[from]) < 3; from++ {
		for _, o := range opens {
			stacks = append(stacks, append(slices.Clone(stacks[from]), o))
		}
	}
	for _, stack := range stacks {
		for _, name := range []string{"p", "div", "b", "li", "a", "svg", "math", "style"} {
			checkStack(t, stack, name)
		}
	}
	random := rand.New(rand.NewSource(8))
	names := append(append(breakers(), staying()...), "p", "p", "p", "li", "li", "li")
	for range 20000 {
		var stack []impl.Open
		for range random.Intn(12) {
			stack = append(stack, impl.Open{Name: names[random.Intn(len(names))], Space: random.Intn(6) % 3 * random.Intn(2)})
		}
		checkStack(t, stack, names[random.Intn(len(names))])
	}
}

func TestCloseAtByHand(t *testing.T) {
	for _, v := range []struct {
		stack, name string
		place, code int
	}{
		{"b", "b", 0, 0}, {"b i", "b", 0, 0}, {"b i", "i", 1, 0}, {"b i b", "b", 2, 0}, {"b b i b b a", "b", 4, 0}, {"b svg/b a", "b", 1, 0}, {"math/b b svg/b math/b", "b", 3, 0},
		{"svg/svg svg/g", "svg", 0, 0}, {"style", "style", 0, 0}, {"br", "br", 0, 0}, {"a b c d e f g h i j", "a", 0, 0},
		{"", "b", 0, impl.ErrNone}, {"b", "i", 0, impl.ErrNone}, {"b i b", "a", 0, impl.ErrNone}, {"bb", "b", 0, impl.ErrNone}, {"b", "bb", 0, impl.ErrNone}, {"svg/g", "svg", 0, impl.ErrNone},
	} {
		if place, code := impl.CloseAt(open(v.stack), v.name); place != v.place || code != v.code {
			t.Errorf("CloseAt(%q, %q) = %d, %d, want %d, %d", v.stack, v.name, place, code, v.place, v.code)
		}
	}
}

func checkStackCode(t *testing.T, stack []impl.Open, name string, want int) {
	t.Helper()
	ends, c1 := impl.Implied(stack, name)
	left, space, c2 := impl.PlaceOf(stack, name)
	place, c3 := impl.CloseAt(stack, name)
	if c1 != want || c2 != want || c3 != want {
		t.Errorf("of %d open and the name %.60q: codes %d %d %d, want %d", len(stack), name, c1, c2, c3, want)
	}
	if ends != 0 || left != 0 || space != 0 || place != 0 {
		t.Errorf("of %d open and the name %.60q: %d %d %d %d beside a code", len(stack), name, ends, left, space, place)
	}
}

// wrongOpens are none, for one reason each.
func wrongOpens() []impl.Open {
	opens := []impl.Open{
		{}, {Space: 1}, {Name: "b", Space: -1}, {Name: "b", Space: 3}, {Name: "p", Space: 1 << 32}, {Name: "li", Space: math.MinInt}, {Name: "svg", Space: math.MaxInt},
		{Name: "1"}, {Name: "-a"}, {Name: "a_b"}, {Name: "abcdefghijklm"}, {Name: strings.Repeat("a", impl.MaxText)}, {Name: strings.Repeat("a", impl.MaxText+1)},
	}
	for _, name := range wrongTags() {
		opens = append(opens, impl.Open{Name: name, Space: len(opens) % 3})
	}
	return opens
}

// wrongTags are no tags' names, but no longer than a text may be.
func wrongTags() []string {
	names := []string{"", "A", "P", "LI", "Svg", "p ", " p", "p\n", "a_b", "_a", "1a", "-", "\xff", "p\xff", "é", "abcdefghijklm", strings.Repeat("a", impl.MaxText)}
	for c := range 256 {
		for _, name := range []string{string([]byte{byte(c)}), string([]byte{'p', byte(c)})} {
			if !tagName.MatchString(name) {
				names = append(names, name)
			}
		}
	}
	return names
}

func TestCodesOfStacks(t *testing.T) {
	tooLong := strings.Repeat("a", impl.MaxText+1)
	for _, o := range wrongOpens() {
		for _, stack := range [][]impl.Open{{o}, {o, {Name: "b"}}, {{Name: "b"}, o}, {{Name: "p"}, o, {Name: "b", Space: 2}}} {
			for _, name := range []string{"b", "p", "li", "A", "", strings.Repeat("a", impl.MaxText)} {
				checkStackCode(t, stack, name, impl.ErrBad)
			}
			checkStackCode(t, stack, tooLong, impl.ErrLong)
		}
	}
	for _, name := range wrongTags() {
		for _, stack := range []string{"", "b", "p", "li", "svg/svg svg/g"} {
			checkStackCode(t, open(stack), name, impl.ErrName)
		}
	}
	checkStackCode(t, nil, tooLong, impl.ErrLong)
	checkStackCode(t, open("p"), tooLong, impl.ErrLong)
}

// TestNamesOfAnyBytes holds that each name has either an answer or ErrName.
func TestNamesOfAnyBytes(t *testing.T) {
	for _, name := range manyTexts() {
		switch {
		case len(name) > impl.MaxText:
			checkStackCode(t, open("b p"), name, impl.ErrLong)
		case tagName.MatchString(name):
			checkStack(t, open("b p"), name)
			checkStack(t, []impl.Open{{Name: name}, {Name: "g", Space: 1}}, name)
		default:
			checkStackCode(t, open("b p"), name, impl.ErrName)
		}
	}
}

func TestLongStacks(t *testing.T) {
	foreign := slices.Repeat(open("svg/g"), impl.MaxList)
	checkBegins(t, foreign, "p", impl.MaxList, impl.SpHtml)
	checkBegins(t, foreign, "x", 0, impl.SpSvg)
	paragraphs := slices.Repeat(open("p"), impl.MaxList)
	checkBegins(t, paragraphs, "p", 1, impl.SpHtml)
	if place, code := impl.CloseAt(append(open("b"), foreign[1:]...), "b"); place != 0 || code != impl.OK {
		t.Errorf("CloseAt of the outermost one: %d, %d", place, code)
	}
	if place, code := impl.CloseAt(paragraphs, "p"); place != impl.MaxList-1 || code != impl.OK {
		t.Errorf("CloseAt of the innermost one: %d, %d", place, code)
	}
	for _, at := range []int{0, 1, impl.MaxList / 2, impl.MaxList - 1} {
		wrong := slices.Clone(foreign)
		wrong[at].Space = 3
		checkStackCode(t, wrong, "p", impl.ErrBad)
		checkStackCode(t, append(wrong, impl.Open{Name: "g"}), "p", impl.ErrLong)
	}
	checkStackCode(t, append(foreign, impl.Open{Name: "g"}), "p", impl.ErrLong)
	checkStackCode(t, append(foreign, impl.Open{}), "", impl.ErrLong)
	checkStackCode(t, make([]impl.Open, impl.MaxList+1), "p", impl.ErrLong)
	checkStackCode(t, make([]impl.Open, impl.MaxList), "", impl.ErrBad)
}
