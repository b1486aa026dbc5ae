package tests

import (
	"reflect"
	"slices"
	"testing"

	"loop.example/g00788/impl"
)

func checkCanonical(t *testing.T, c, want impl.Config) {
	t.Helper()
	got, code := impl.Canonical(c)
	if showConfig(got) != showConfig(want) || code != impl.OK {
		t.Errorf("Canonical(%s) = %s, %d, want %s", showConfig(c), showConfig(got), code, showConfig(want))
	}
}

// TestOrderByHand holds that what is in order stays as it is, too.
func TestOrderByHand(t *testing.T) {
	for told, want := range map[string]string{
		"": "", "allow:": "allow:", "attrs:": "attrs:", "comments attrs: data": "comments attrs: data",
		"allow:p,b,a":                                                   "allow:a,b,p",
		"allow:math/a,svg/b,c,svg/a,a,math/b":                           "allow:a,c,svg/a,svg/b,math/a,math/b",
		"allow:z,svg/y,math/x":                                          "allow:z,svg/y,math/x",
		"allow:a-b,ab,a,a-,a0":                                          "allow:a,a-,a-b,a0,ab",
		"remove:math/a,svg/b,c,svg/a,a":                                 "remove:a,c,svg/a,svg/b,math/a",
		"unwrap:math/a,svg/b,c,svg/a,a":                                 "unwrap:a,c,svg/a,svg/b,math/a",
		"attrs:title,id,class":                                          "attrs:class,id,title",
		"drop:title,id,class":                                           "drop:class,id,title",
		"allow:p+title+id+class,b+z+a attrs:":                           "allow:b+a+z,p+class+id+title attrs:",
		"allow:b+a,a+b attrs:d,c":                                       "allow:a+b,b+a attrs:c,d",
		"attrs:data-y,data-x,data-,data data":                           "attrs:data,data-,data-x,data-y data",
		"allow:script,p,svg/use,math/iframe,b":                          "allow:b,p",
		"allow:object,embed,frame,base,use,scripts,svg/p,script,iframe": "allow:scripts,svg/p",
		"allow:script+src,p+src attrs:id":                               "allow:p+src attrs:id",
		"unwrap:script,iframe,object,embed,frame,base,use":              "unwrap:",
		"unwrap:svg/use,p,math/script,b,math/b":                         "unwrap:b,p,math/b",
		"remove:script,use,svg/use,base,p":                              "remove:base,p,script,use,svg/use",
		"allow:script unwrap:svg/script":                                "allow: unwrap:",
		"remove:script unwrap:svg/script,b":                             "remove:script unwrap:b",
		"attrs:title,onclick,on,onx,id,ons-,o":                          "attrs:id,o,on,title",
		"attrs:onclick,onload":                                          "attrs:",
		"drop:title,onclick,on,onx,id":                                  "drop:id,on,onclick,onx,title",
		"allow:p+onclick+id+onload+class,b+onx,a+on attrs:":             "allow:a+on,b,p+class+id attrs:",
		"allow:onclick,on unwrap:onload":                                "allow:on,onclick unwrap:onload",
		"remove:onload,onclick":                                         "remove:onclick,onload",
		"attrs:script,iframe,href":                                      "attrs:href,iframe,script",
	} {
		checkCanonical(t, config(told), config(want))
		checkCanonical(t, config(want), config(want))
	}
	reversed := impl.Config{HasAllow: true, HasAttrs: true, Allow: numberedRules("a", 10, numbered("x", 10)...), Unwrap: numberedRules("u", 10), Attrs: numbered("y", 10)}
	checkCanonical(t, reversed, canonicalBy(reversed))
	for i := range reversed.Allow {
		reversed.Allow[i].Attrs = slices.Clone(reversed.Allow[i].Attrs)
		slices.Reverse(reversed.Allow[i].Attrs)
	}
	slices.Reverse(reversed.Allow)
	slices.Reverse(reversed.Unwrap)
	slices.Reverse(reversed.Attrs)
	checkCanonical(t, reversed, canonicalBy(reversed))
	if names := canonicalBy(reversed).Allow[0].Attrs; !slices.Equal(names, numbered("x", 10)) {
		t.Error("the second reading does not sort", names)
	}
}

func TestDefaultConfigInOrder(t *testing.T) {
	checkCanonical(t, impl.DefaultConfig(), config("allow:a+href,b,br,div,h1,i,li,p,table,ul attrs:class,id,title"))
}

func TestOrderOfAnyConfigs(t *testing.T) {
	for _, c := range append(rightConfigs(), anyConfigs(400)...) {
		want := canonicalBy(c)
		checkCanonical(t, c, want)
		checkCanonical(t, configWithRoom(c), want)
		checkCanonical(t, want, want)
		shuffled := copiedConfig(c)
		for _, l := range ruleLists(&shuffled) {
			slices.Reverse(*l)
		}
		for _, l := range nameLists(&shuffled) {
			slices.Reverse(*l)
		}
		checkCanonical(t, shuffled, want)
	}
}

// TestOrderDecidesTheSame is promise 10; it asks the program alone.
func TestOrderDecidesTheSame(t *testing.T) {
	for _, c := range append(rightConfigs(), anyConfigs(100)...) {
		ordered, code := impl.Canonical(c)
		if code != impl.OK || impl.CheckConfig(ordered) != impl.OK {
			t.Errorf("Canonical(%s) = %s, %d", showConfig(c), showConfig(ordered), code)
		}
		again, code := impl.Canonical(ordered)
		if code != impl.OK || showConfig(again) != showConfig(ordered) || !impl.SameConfig(again, ordered) {
			t.Errorf("in order again it is another one: %s, %d, at first %s", showConfig(again), code, showConfig(ordered))
		}
		for _, name := range append(decidedNames(), "a0", "u1", "u9", "form", "b-") {
			for space := range 3 {
				checkDecidesTheSame(t, c, ordered, space, name)
			}
		}
	}
}

func checkDecidesTheSame(t *testing.T, c, ordered impl.Config, space int, name string) {
	t.Helper()
	stays, code := impl.AllowsElement(c, space, name)
	staysThen, codeThen := impl.AllowsElement(ordered, space, name)
	unwraps, code2 := impl.Unwraps(c, space, name)
	unwrapsThen, code2Then := impl.Unwraps(ordered, space, name)
	if stays != staysThen || unwraps != unwrapsThen || code != impl.OK || codeThen != impl.OK || code2 != impl.OK || code2Then != impl.OK {
		t.Errorf("%s and %s differ of %s", showConfig(c), showConfig(ordered), elementOf(space, name))
	}
	if !stays {
		return
	}
	for _, a := range decidedAttrs() {
		yes, code := impl.AllowsAttr(c, space, name, a)
		yesThen, codeThen := impl.AllowsAttr(ordered, space, name, a)
		if yes != yesThen || code != impl.OK || codeThen != impl.OK {
			t.Errorf("%s and %s differ of %s with %v", showConfig(c), showConfig(ordered), elementOf(space, name), a)
		}
	}
}

// TestOrderIsNewMemory writes into answers, and looks at the arguments; lists that are empty have room of their own, too.
func TestOrderIsNewMemory(t *testing.T) {
	for _, c := range append(rightConfigs(), anyConfigs(100)...) {
		c = configWithRoom(c)
		before := wholeConfig(c)
		ordered, _ := impl.Canonical(c)
		checkApart(t, append(listsOf(ordered), listsOf(c)...))
		told := showConfig(ordered)
		spoilConfig(ordered)
		if !reflect.DeepEqual(wholeConfig(c), before) {
			t.Errorf("an answer shares memory with %s", showConfig(c))
		}
		if again, _ := impl.Canonical(c); showConfig(again) != told {
			t.Errorf("Canonical(%s) = %s then, at first %s", showConfig(c), showConfig(again), told)
		}
	}
}
