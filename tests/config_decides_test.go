package tests

import (
	"math"
	"reflect"
	"strings"
	"testing"

	"loop.example/g00788/impl"
)

// checkElement holds Unwraps and AllowsElement, of a name with the space ahead, against the notation `unwraps`, `stays` or `goes`.
func checkElement(t *testing.T, told, element, want string) {
	t.Helper()
	c, e := config(told), open(element)[0]
	unwraps, c1 := impl.Unwraps(c, e.Space, e.Name)
	allows, c2 := impl.AllowsElement(c, e.Space, e.Name)
	if unwraps != (want == "unwraps") || allows != (want == "stays") || c1 != impl.OK || c2 != impl.OK {
		t.Errorf("%q: of %s Unwraps = %v, %d, AllowsElement = %v, %d, want that it %s", told, element, unwraps, c1, allows, c2, want)
	}
}

func TestElementsByHand(t *testing.T) {
	for told, elements := range map[string]string{
		"":                              "p:stays svg/p:stays math/p:stays style:stays svg:stays math/style:stays on:stays embeds:stays",
		"allow:":                        "p:goes svg/p:goes math/p:goes style:goes",
		"allow:p,svg/b":                 "p:stays svg/p:goes math/p:goes b:goes svg/b:stays math/b:goes pp:goes",
		"allow:p,svg/p,math/p":          "p:stays svg/p:stays math/p:stays b:goes",
		"allow:math/p":                  "p:goes svg/p:goes math/p:stays",
		"allow:p+id,b attrs:":           "p:stays b:stays i:goes",
		"remove:p,svg/b":                "p:goes svg/p:stays math/p:stays b:stays svg/b:goes i:stays",
		"remove:p,svg/p,math/p":         "p:goes svg/p:goes math/p:goes b:stays",
		"unwrap:p,svg/b":                "p:unwraps svg/p:stays math/p:stays b:stays svg/b:unwraps i:stays",
		"unwrap:math/p":                 "p:stays svg/p:stays math/p:unwraps",
		"allow:p unwrap:svg/p,b":        "p:stays svg/p:unwraps math/p:goes b:unwraps svg/b:goes",
		"allow: unwrap:p":               "p:unwraps b:goes",
		"remove:p unwrap:svg/p,b":       "p:goes svg/p:unwraps math/p:stays b:unwraps i:stays",
		"attrs: comments":               "p:stays style:stays",
		"drop:p":                        "p:stays",
		"allow:abcdefghijkl unwrap:a-":  "abcdefghijkl:stays abcdefghijk:goes a-:unwraps a:goes",
		"allow:a,b,c,d,e,f,g,h,i,svg/j": "a:stays i:stays svg/j:stays j:goes k:goes",
	} {
		for _, v := range strings.Fields(elements) {
			element, want, _ := strings.Cut(v, ":")
			checkElement(t, told, element, want)
		}
	}
	c := impl.DefaultConfig()
	for _, name := range allMembers() {
		for space := range 3 {
			stays, code := impl.AllowsElement(c, space, name)
			if stays != (space == impl.SpHtml && among("p div b i a ul li br h1 table", name)) || code != impl.OK && len(name) <= impl.MaxName {
				t.Errorf("of DefaultConfig %s is %v, %d", elementOf(space, name), stays, code)
			}
		}
	}
}

// TestBannedElements never stay, and are never unwrapped, whichever list has them, in each space.
func TestBannedElements(t *testing.T) {
	for _, name := range strings.Fields(bannedNames) {
		for _, space := range []string{"", "svg/", "math/"} {
			for _, told := range []string{"", "allow:", "attrs: data comments", "allow:x", "allow:X", "allow:X+href+id attrs:title", "remove:x", "remove:X", "unwrap:x", "unwrap:X", "allow:p unwrap:X,b", "remove:p unwrap:X"} {
				checkElement(t, strings.ReplaceAll(told, "X", space+name), space+name, "goes")
			}
			checkElement(t, "", space+name+"s", "stays")
			checkElement(t, "unwrap:"+space+name+"s", space+name+"s", "unwraps")
			checkElement(t, "allow:"+space+"a"+name, space+"a"+name, "stays")
		}
	}
}

func checkAttr(t *testing.T, told, element string, a impl.Attr, want bool) {
	t.Helper()
	e := open(element)[0]
	if yes, code := impl.AllowsAttr(config(told), e.Space, e.Name, a); yes != want || code != impl.OK {
		t.Errorf("%q: AllowsAttr of %s with %q = %v, %d, want %v", told, element, a, yes, code, want)
	}
}

// TestAttrsByHand has configurations with elements and attributes; a `+` ahead means that it stays, a `-` that it does not.
func TestAttrsByHand(t *testing.T) {
	for told, attrs := range map[string]string{
		"":                               "p+id p+href p+style p+data-x p+data- p+on svg/p+class p-onclick p-onx p-on-",
		"attrs:":                         "p-id p-href p-data-x p-data- p-on p-onclick",
		"drop:id,data-x,on,onclick,href": "p-id svg/p-id math/b-id p-data-x p-on p-onclick p-href p+class p+ids p+data- p+src",
		"attrs:id,on,onclick,data-":      "p+id svg/b+id p+on p-onclick p+data- p-data-x p-class p-ids p-i",
		"attrs: data":                    "p+data-x svg/p+data-x p+data-on p+data-1 p+data-- p-data- p-data p-id p-xdata-x p-dat-x p-onclick",
		"attrs:data- data":               "p+data-x p+data- p-data",
		"attrs:id data":                  "p+id p+data-x p-class",
		"allow:p+id,b+title+on attrs:":   "p+id svg/p-id math/p-id p-title b+title b+on b-id i-id svg/b-title",
		"allow:svg/p+id,p,math/p+title attrs:class": "p-id svg/p+id math/p-id p-title math/p+title svg/p-title p+class svg/p+class math/b+class",
		"allow:p+onclick+src,b+data- attrs: data":   "p-onclick p+src b-src b+data- p-data- b+data-x p+data-x i+data-x",
		"allow:p+id,b attrs:class unwrap:i":         "p+id b-id i-id i+class b+class u+class",
		"allow:script+src attrs:":                   "script+src p-src svg/script-src",
		"allow:p,b":                                 "p+id b+id i+id p-onclick",
		"remove:p unwrap:b drop:id":                 "p-id p+class b-id b+class",
		"allow:a,b,c,d,e,f,g,h,i,j+a+b+c+d+e+f+g+h+i+j attrs:k,l,m,n,o,p,q,r,s,t": "j+j j+a j+t j+k a+t a+k a-a j-u",
	} {
		for _, v := range strings.Fields(attrs) {
			at := strings.IndexAny(v, "+-")
			checkAttr(t, told, v[:at], impl.Attr{Name: v[at+1:], Value: "x"}, v[at] == '+')
			checkAttr(t, told, v[:at], impl.Attr{Name: v[at+1:]}, v[at] == '+')
		}
	}
}

// TestHandlersNeverStay has those that a list names, too.
func TestHandlersNeverStay(t *testing.T) {
	for _, name := range []string{"onclick", "onx", "on-", "on1", "onabcdefghij"} {
		for _, told := range []string{"", "attrs:", "attrs:X", "allow:p+X attrs:", "allow:p+id attrs:X data", "allow:p", "drop:id", "drop:X"} {
			checkAttr(t, strings.ReplaceAll(told, "X", name), "p", impl.Attr{Name: name, Value: "x"}, false)
		}
		checkAttr(t, "", "p", impl.Attr{Name: name[1:], Value: "x"}, true)
		checkAttr(t, "", "p", impl.Attr{Name: "a" + name[:3], Value: "x"}, true)
	}
	for _, name := range []string{"on", "o", "no"} {
		checkAttr(t, "", "p", impl.Attr{Name: name}, true)
		checkAttr(t, "attrs:"+name, "p", impl.Attr{Name: name}, true)
		checkAttr(t, "allow:p+"+name+" attrs:", "p", impl.Attr{Name: name}, true)
	}
}

func TestLinksThatStay(t *testing.T) {
	good := []string{"", "x", "https://x/", "/javascript:x", "javascript", "java script:x", "data:x", "javascript;:", "x javascript:", "\xff"}
	bad := []string{"javascript:", "javascript:x", "JavaScript:x", " \t\x00javascript:x", "java\nscript:x", "j\ra\tv\nascript:x", "JAVASCRIPT:\xff"}
	for _, name := range append(strings.Fields("href src action formaction xlink-href"), "class", "hrefs", "data-href", "xlink", "on") {
		link := among("href src action formaction xlink-href", name)
		for _, told := range []string{"", "attrs:X", "allow:p+X attrs:", "attrs:X data comments", "remove:p"} {
			told = strings.ReplaceAll(told, "X", name)
			for _, element := range []string{"p", "svg/p"} {
				rightRule := !strings.Contains(told, "+") || element == "p"
				for _, value := range good {
					checkAttr(t, told, element, impl.Attr{Name: name, Value: value}, rightRule)
				}
				for _, value := range bad {
					checkAttr(t, told, element, impl.Attr{Name: name, Value: value}, rightRule && !link)
				}
			}
		}
		for _, value := range append(good, bad...) {
			checkAttr(t, "drop:"+name, "p", impl.Attr{Name: name, Value: value}, false)
			checkAttr(t, "attrs:", "p", impl.Attr{Name: name, Value: value}, false)
		}
	}
}

// TestDecisionsOfAnyConfigs holds the three calls against the second reading.
func TestDecisionsOfAnyConfigs(t *testing.T) {
	attrs := decidedAttrs()
	told := map[string]int{}
	for _, c := range append(rightConfigs(), anyConfigs(60)...) {
		for _, name := range append(decidedNames(), "a0", "u1", "form") {
			for space := range 3 {
				got, want := decided(t, c, space, name, attrs), decidedBy(c, space, name, attrs)
				if !reflect.DeepEqual(got, want) {
					t.Errorf("%s decides of %s %v, want %v", showConfig(c), elementOf(space, name), got, want)
				}
				noteDecision(told, want)
			}
		}
	}
	for _, sort := range []string{"unwraps", "stays", "goes", "attr stays", "attr goes"} {
		if told[sort] < 150 {
			t.Error("too few of one sort", told)
		}
	}
}

func decided(t *testing.T, c impl.Config, space int, name string, attrs []impl.Attr) decision {
	t.Helper()
	unwraps, c1 := impl.Unwraps(c, space, name)
	allows, c2 := impl.AllowsElement(c, space, name)
	d := decision{unwraps: unwraps, allows: allows}
	for _, a := range attrs {
		stays, code := impl.AllowsAttr(c, space, name, a)
		d.attrs = append(d.attrs, stays)
		c1 = max(c1, code)
	}
	if c1 != impl.OK || c2 != impl.OK {
		t.Errorf("%s has codes of %s: %d, %d", showConfig(c), elementOf(space, name), c1, c2)
	}
	return d
}

func noteDecision(told map[string]int, d decision) {
	switch {
	case d.unwraps:
		told["unwraps"]++
	case d.allows:
		told["stays"]++
	default:
		told["goes"]++
	}
	for _, stays := range d.attrs {
		if stays {
			told["attr stays"]++
		} else {
			told["attr goes"]++
		}
	}
}

func checkDecisionCode(t *testing.T, c impl.Config, space int, name string, a impl.Attr, want int) {
	t.Helper()
	unwraps, c1 := impl.Unwraps(c, space, name)
	allows, c2 := impl.AllowsElement(c, space, name)
	stays, c3 := impl.AllowsAttr(c, space, name, a)
	if c1 != want || c2 != want || c3 != want || unwraps || allows || stays {
		t.Errorf("%.200s of %d, %.60q: %v %v %v, codes %d %d %d, want %d", showConfig(c), space, name, unwraps, allows, stays, c1, c2, c3, want)
	}
}

// wrongAttrs are such as no element may have.
func wrongAttrs() []impl.Attr {
	attrs := []impl.Attr{{}, {Name: "id", Value: strings.Repeat("v", impl.MaxValue+1)}, {Name: "id", Value: strings.Repeat("v", impl.MaxText+1)}, {Name: strings.Repeat("a", impl.MaxText+1)}, {Name: "href", Value: "javascript:" + strings.Repeat("v", 30)}}
	for _, name := range wrongTags() {
		attrs = append(attrs, impl.Attr{Name: name, Value: "x"})
	}
	return attrs
}

// codedConfigs have ErrBad and ErrConfig by turns.
func codedConfigs() []impl.Config {
	return []impl.Config{
		config("attrs:id,id"), config("data"), config("allow:P"), config("allow-:p"), config("remove:p+id"), config("allow: remove:p"),
		config("unwrap:p,p"), config("allow:p unwrap:p"), {Drop: numbered("a", 11)}, config("allow:p+id"), {Unwrap: make([]impl.Rule, 1<<20)}, config("attrs: drop:id"),
	}
}

// TestFirstCodesOfDecisions has what is wrong in more than one way: the first code counts.
func TestFirstCodesOfDecisions(t *testing.T) {
	right, tooLong, longest := impl.Attr{Name: "id"}, strings.Repeat("p", impl.MaxText+1), strings.Repeat("p", impl.MaxText)
	for i, c := range codedConfigs() {
		want := []int{impl.ErrBad, impl.ErrConfig}[i%2]
		for _, a := range []impl.Attr{right, {}} {
			for _, space := range []int{0, 1, 3, math.MinInt} {
				checkDecisionCode(t, c, space, "p", a, want)
				checkDecisionCode(t, c, space, "P", a, want)
				checkDecisionCode(t, c, space, "script", a, want)
				checkDecisionCode(t, c, space, longest, a, want)
				checkDecisionCode(t, c, space, tooLong, a, impl.ErrLong)
			}
		}
	}
	for _, c := range []impl.Config{{}, impl.DefaultConfig(), config("unwrap:p attrs: data")} {
		for _, a := range []impl.Attr{right, {}} {
			for _, space := range wrongSpaces() {
				for _, name := range []string{"p", "script", "P", "", "\xff", longest} {
					checkDecisionCode(t, c, space, name, a, impl.ErrRange)
				}
				checkDecisionCode(t, c, space, tooLong, a, impl.ErrLong)
			}
			for space := range 3 {
				for _, name := range wrongTags() {
					checkDecisionCode(t, c, space, name, a, impl.ErrName)
				}
				checkDecisionCode(t, c, space, tooLong, a, impl.ErrLong)
			}
		}
	}
}

// TestAttrsThatNoElementMayHave have ErrBad, whatever is decided of others.
func TestAttrsThatNoElementMayHave(t *testing.T) {
	for _, a := range wrongAttrs() {
		for _, c := range []impl.Config{{}, impl.DefaultConfig(), config("attrs: data"), config("drop:id,href")} {
			for _, name := range []string{"p", "a", "script"} {
				if stays, code := impl.AllowsAttr(c, impl.SpHtml, name, a); stays || code != impl.ErrBad {
					t.Errorf("AllowsAttr with %.60q = %v, %d", a, stays, code)
				}
			}
		}
	}
	for _, a := range []impl.Attr{{Name: "id", Value: strings.Repeat("v", impl.MaxValue)}, {Name: "abcdefghijkl", Value: "\x00\xff"}, {Name: "a-"}} {
		checkAttr(t, "", "p", a, true)
	}
}
