package tests

import (
	"fmt"
	"math/rand"
	"reflect"
	"regexp"
	"slices"
	"sort"
	"strings"

	"loop.example/g00788/impl"
)

// config reads a notation of its own: `allow:` and `attrs:` mean HasAllow and HasAttrs, too, `allow-:` and `attrs-:` the lists alone.
func config(told string) impl.Config {
	var c impl.Config
	for _, word := range strings.Fields(told) {
		name, list, _ := strings.Cut(word, ":")
		switch name {
		case "allow", "allow-":
			c.HasAllow = name == "allow"
			c.Allow = rules(list)
		case "attrs", "attrs-":
			c.HasAttrs = name == "attrs"
			c.Attrs = commas(list)
		case "remove":
			c.Remove = rules(list)
		case "unwrap":
			c.Unwrap = rules(list)
		case "drop":
			c.Drop = commas(list)
		case "comments":
			c.Comments = true
		case "data":
			c.Data = true
		default:
			panic("no part of a configuration: " + word)
		}
	}
	return c
}

func commas(list string) []string {
	if list == "" {
		return nil
	}
	return strings.Split(list, ",")
}

func rules(list string) []impl.Rule {
	var found []impl.Rule
	for _, told := range commas(list) {
		found = append(found, rule(told))
	}
	return found
}

// rule reads `svg/a+href+id`.
func rule(told string) impl.Rule {
	parts := strings.Split(told, "+")
	where := open(parts[0])[0]
	return impl.Rule{Space: where.Space, Name: where.Name, Attrs: parts[1:]}
}

// numbered are n tags' names, no two alike.
func numbered(name string, n int) []string {
	var names []string
	for i := range n {
		names = append(names, fmt.Sprint(name, i))
	}
	return names
}

func numberedRules(name string, n int, attrs ...string) []impl.Rule {
	var list []impl.Rule
	for i, name := range numbered(name, n) {
		list = append(list, impl.Rule{Space: i % 3, Name: name, Attrs: attrs})
	}
	return list
}

// showConfig tells configurations apart; nil and empty lists are alike in it.
func showConfig(c impl.Config) string {
	return fmt.Sprintf("allow %v %s, remove %s, unwrap %s, attrs %v %q, drop %q, comments %v, data %v",
		c.HasAllow, showRules(c.Allow), showRules(c.Remove), showRules(c.Unwrap), c.HasAttrs, c.Attrs, c.Drop, c.Comments, c.Data)
}

func showRules(list []impl.Rule) string {
	var shown []string
	for _, r := range list {
		shown = append(shown, fmt.Sprintf("%d/%q%q", r.Space, r.Name, r.Attrs))
	}
	return fmt.Sprint(shown)
}

// merged has the lists of both behind one another, and what one of the two has.
func merged(a, b impl.Config) impl.Config {
	return impl.Config{
		HasAllow: a.HasAllow || b.HasAllow, HasAttrs: a.HasAttrs || b.HasAttrs,
		Allow: slices.Concat(a.Allow, b.Allow), Remove: slices.Concat(a.Remove, b.Remove), Unwrap: slices.Concat(a.Unwrap, b.Unwrap),
		Attrs: slices.Concat(a.Attrs, b.Attrs), Drop: slices.Concat(a.Drop, b.Drop),
		Comments: a.Comments || b.Comments, Data: a.Data || b.Data,
	}
}

// ruleLists and nameLists are the lists of a configuration, to be looked at and written to.
func ruleLists(c *impl.Config) []*[]impl.Rule {
	return []*[]impl.Rule{&c.Allow, &c.Remove, &c.Unwrap}
}

func nameLists(c *impl.Config) []*[]string { return []*[]string{&c.Attrs, &c.Drop} }

// mapped has other lists in the place of a configuration's.
func mapped(c impl.Config, names func([]string) []string, list func([]impl.Rule) []impl.Rule) impl.Config {
	for _, l := range ruleLists(&c) {
		*l = list(*l)
		for i, r := range *l {
			(*l)[i].Attrs = names(r.Attrs)
		}
	}
	for _, l := range nameLists(&c) {
		*l = names(*l)
	}
	return c
}

// copiedConfig has nil in the place of empty lists, and no room.
func copiedConfig(c impl.Config) impl.Config {
	return mapped(c, clipped[string], clipped[impl.Rule])
}

func clipped[T any](list []T) []T { return slices.Clip(append([]T(nil), list...)) }

// configWithRoom has others behind the ends of the lists, and empty lists in the place of nil.
func configWithRoom(c impl.Config) impl.Config {
	return mapped(c, func(names []string) []string {
		return append(append(make([]string, 0, len(names)+2), names...), "behind")[:len(names)]
	}, func(list []impl.Rule) []impl.Rule {
		return append(append(make([]impl.Rule, 0, len(list)+2), list...), impl.Rule{Name: "behind", Attrs: []string{"behind"}})[:len(list)]
	})
}

// wholeConfig tells what stands behind the ends, too.
func wholeConfig(c impl.Config) impl.Config {
	return mapped(c, func(names []string) []string { return slices.Clone(names[:cap(names)]) },
		func(list []impl.Rule) []impl.Rule { return slices.Clone(list[:cap(list)]) })
}

// spoilConfig writes into all lists, and behind their ends.
func spoilConfig(c impl.Config) {
	for _, l := range ruleLists(&c) {
		whole := (*l)[:cap(*l)]
		for i := range whole {
			spoilNames(whole[i].Attrs)
			whole[i] = impl.Rule{Space: -1, Name: "spoilt"}
		}
	}
	for _, l := range nameLists(&c) {
		spoilNames(*l)
	}
}

func spoilNames(names []string) {
	names = names[:cap(names)]
	for i := range names {
		names[i] = "spoilt"
	}
}

func listsOf(c impl.Config) []reflect.Value {
	var lists []reflect.Value
	for _, l := range ruleLists(&c) {
		lists = append(lists, reflect.ValueOf(*l))
		for _, r := range *l {
			lists = append(lists, reflect.ValueOf(r.Attrs))
		}
	}
	for _, l := range nameLists(&c) {
		lists = append(lists, reflect.ValueOf(*l))
	}
	return lists
}

// codeBy reads CheckConfig in another way than the program: by sorted lists of what rules are for.
func codeBy(c impl.Config) int {
	if !namesRight(c.Attrs) || !namesRight(c.Drop) || !rulesRight(c.Allow, 10) || !rulesRight(c.Remove, 0) || !rulesRight(c.Unwrap, 0) {
		return impl.ErrBad
	}
	var ruleAttrs []string
	for _, r := range c.Allow {
		ruleAttrs = append(ruleAttrs, r.Attrs...)
	}
	for _, wrong := range []bool{
		!c.HasAllow && len(c.Allow) > 0,
		c.HasAllow && len(c.Remove) > 0,
		!c.HasAttrs && len(c.Attrs) > 0,
		!c.HasAttrs && c.Data,
		c.HasAttrs && len(c.Drop) > 0,
		meet(elementsOf(c.Unwrap), elementsOf(c.Allow)),
		meet(elementsOf(c.Unwrap), elementsOf(c.Remove)),
		!c.HasAttrs && len(ruleAttrs) > 0,
		meet(ruleAttrs, c.Attrs),
	} {
		if wrong {
			return impl.ErrConfig
		}
	}
	return impl.OK
}

func namesRight(names []string) bool {
	wrong := func(name string) bool { return !tagName.MatchString(name) }
	return len(names) <= 10 && !slices.ContainsFunc(names, wrong) && !hasTwins(names)
}

func rulesRight(list []impl.Rule, mostAttrs int) bool {
	for _, r := range list {
		if r.Space != 0 && r.Space != 1 && r.Space != 2 || !tagName.MatchString(r.Name) || len(r.Attrs) > mostAttrs || !namesRight(r.Attrs) {
			return false
		}
	}
	return len(list) <= 10 && !hasTwins(elementsOf(list))
}

func hasTwins(list []string) bool {
	sorted := slices.Sorted(slices.Values(list))
	return len(slices.Compact(sorted)) < len(list)
}

func meet(a, b []string) bool {
	return slices.ContainsFunc(a, func(x string) bool { return slices.Contains(b, x) })
}

func elementsOf(list []impl.Rule) []string {
	var told []string
	for _, r := range list {
		told = append(told, elementOf(r.Space, r.Name))
	}
	return told
}

// elementOf is ordered by Space, then by name, in right rules.
func elementOf(space int, name string) string { return fmt.Sprint(space, "/", name) }

const bannedNames = "script iframe object embed frame base use"

var handlerForm = regexp.MustCompile(`(?s)^on.`)

// canonicalBy reads Canonical in another way: it sorts texts.
func canonicalBy(c impl.Config) impl.Config {
	c = copiedConfig(c)
	for _, l := range []*[]impl.Rule{&c.Allow, &c.Unwrap} {
		*l = slices.DeleteFunc(*l, func(r impl.Rule) bool { return among(bannedNames, r.Name) })
	}
	for i := range c.Allow {
		c.Allow[i].Attrs = slices.DeleteFunc(c.Allow[i].Attrs, handlerForm.MatchString)
		sort.Strings(c.Allow[i].Attrs)
	}
	c.Attrs = slices.DeleteFunc(c.Attrs, handlerForm.MatchString)
	for _, l := range ruleLists(&c) {
		sort.Slice(*l, func(i, k int) bool { return elementsOf(*l)[i] < elementsOf(*l)[k] })
	}
	for _, l := range nameLists(&c) {
		sort.Strings(*l)
	}
	return c
}

// A decision is what the last three calls tell of an element, and of the attributes of a list.
type decision struct {
	unwraps, allows bool
	attrs           []bool
}

// decidedBy reads these calls in another way, of right configurations.
func decidedBy(c impl.Config, space int, name string, attrs []impl.Attr) decision {
	element, banned := elementOf(space, name), among(bannedNames, name)
	inUnwrap := slices.Contains(elementsOf(c.Unwrap), element)
	ruledIn := slices.Contains(elementsOf(c.Remove), element)
	if c.HasAllow {
		ruledIn = !slices.Contains(elementsOf(c.Allow), element)
	}
	d := decision{unwraps: inUnwrap && !banned, allows: !banned && !inUnwrap && !ruledIn}
	for _, a := range attrs {
		d.attrs = append(d.attrs, attrStaysBy(c, element, a))
	}
	return d
}

func harmfulBy(a impl.Attr) bool {
	return handlerForm.MatchString(a.Name) || among("href src action formaction xlink-href", a.Name) && isBadLink(a.Value)
}

func attrStaysBy(c impl.Config, element string, a impl.Attr) bool {
	var named []string
	for _, r := range c.Allow {
		if elementOf(r.Space, r.Name) == element {
			named = r.Attrs
		}
	}
	named = slices.Concat(named, c.Attrs)
	dataName := c.Data && len(a.Name) > 5 && a.Name[:5] == "data-"
	return !harmfulBy(a) && !slices.Contains(c.Drop, a.Name) && (!c.HasAttrs || dataName || slices.Contains(named, a.Name))
}

// rightConfigs have no code.
func rightConfigs() []impl.Config {
	var list []impl.Config
	for _, told := range []string{
		"", "allow:", "attrs:", "allow: attrs:", "comments", "attrs: data", "comments attrs: data", "allow: comments",
		"allow:p", "allow:p,svg/p,math/p", "allow:svg/a,math/a", "remove:p", "remove:p,svg/p,math/p", "unwrap:p", "unwrap:p,svg/p,math/p",
		"allow:p unwrap:svg/p", "allow:svg/p unwrap:p,math/p", "remove:p unwrap:svg/p", "remove:svg/p,math/p unwrap:p,svg/b", "allow:p unwrap:b",
		"attrs:id", "attrs:id,class,title", "drop:id", "drop:id,class,title", "drop:onclick,onload,on,data-x,href", "attrs:onclick,id,onload,on",
		"allow:p+id attrs:", "allow:p+id,b+id attrs:", "allow:p+id,svg/p+title,math/p+class attrs:lang", "allow:p+title,b attrs:id", "allow:p+id+class+title attrs: data",
		"allow:p+onclick+id+onload,script+src,svg/use+href attrs:onmouse,class", "allow:p+data-x,b+data- attrs:data-y data", "allow:p+data-x attrs:data-y,data-",
		"allow:script,iframe,object,embed,frame,base,use", "remove:script,iframe,object,embed,frame,base,use", "unwrap:script,iframe,object,embed,frame,base,use",
		"allow:svg/script,math/script,script,b unwrap:svg/use,use,a,svg/a", "remove:use,svg/script,p,a unwrap:object,math/use,i,b",
		"allow:script unwrap:svg/script attrs:href,src", "allow:on+on+onx+o attrs:ons,n", "allow:z,y,x,svg/w,v,math/u,svg/t,s,math/r,a1 attrs:",
		"allow:a-b,ab,a,a-,a0 attrs:b,ba,b-,b0,b-a", "remove:b,a unwrap:d,c drop:f,e", "allow:p+href+src,a+href,svg/a+xlink-href,form+action,b+formaction attrs:title comments data",
	} {
		list = append(list, config(told))
	}
	ten := impl.Config{HasAllow: true, HasAttrs: true, Allow: numberedRules("a", 10, numbered("x", 10)...), Unwrap: numberedRules("u", 10), Attrs: numbered("y", 10)}
	other := impl.Config{Remove: numberedRules("a", 10), Unwrap: numberedRules("u", 10), Drop: numbered("y", 10)}
	longest := "abcdefghijkl"
	most := impl.Config{HasAllow: true, HasAttrs: true, Allow: []impl.Rule{{Space: 2, Name: longest, Attrs: []string{longest}}}, Attrs: []string{"a-1234567890"}}
	return append(list, ten, other, most, impl.DefaultConfig())
}

// anyConfigs are right ones by chance, of few names, alike at every call.
func anyConfigs(n int) []impl.Config {
	var list []impl.Config
	for i := range n {
		list = append(list, anyConfig(rand.New(rand.NewSource(int64(i)))))
	}
	return list
}

func anyConfig(random *rand.Rand) impl.Config {
	c := impl.Config{HasAllow: random.Intn(2) == 0, HasAttrs: random.Intn(2) == 0, Comments: random.Intn(2) == 0}
	var elements []impl.Rule
	for _, i := range random.Perm(3 * len(decidedNames())) {
		elements = append(elements, impl.Rule{Space: i % 3, Name: decidedNames()[i/3]})
	}
	cut, end := random.Intn(11), 10+random.Intn(11)
	ruled := elements[:cut]
	c.Unwrap = elements[10:end]
	names := numbersShuffled(random, attrNames())
	first := random.Intn(8)
	if c.HasAttrs {
		c.Attrs, c.Data = names[:first], random.Intn(2) == 0
	} else {
		c.Drop = names[:first]
	}
	if !c.HasAllow {
		c.Remove = ruled
		return c
	}
	c.Allow = ruled
	for i := range ruled {
		if own := names[first:]; c.HasAttrs {
			ruled[i].Attrs = numbersShuffled(random, own)[:random.Intn(min(len(own), 10)+1)]
		}
	}
	return c
}

func numbersShuffled(random *rand.Rand, names []string) []string {
	shuffled := slices.Clone(names)
	random.Shuffle(len(shuffled), func(i, k int) { shuffled[i], shuffled[k] = shuffled[k], shuffled[i] })
	return shuffled
}

// decidedNames are the elements' names that decisions are asked of.
func decidedNames() []string {
	return strings.Fields("p a b br i style svg script iframe object embed frame base use on abcdefghijkl")
}

func attrNames() []string {
	return strings.Fields("id class title href src xlink-href formaction onclick onx on data- data-x data-on style")
}

func decidedAttrs() []impl.Attr {
	var attrs []impl.Attr
	for _, name := range attrNames() {
		for _, value := range []string{"x", " Java\nScript:x"} {
			attrs = append(attrs, impl.Attr{Name: name, Value: value})
		}
	}
	return attrs
}

// changedConfigs differ from c in one thing each, or are alike to it; many have a code.
func changedConfigs(c impl.Config) []impl.Config {
	var list []impl.Config
	change := func(how func(*impl.Config)) {
		x := copiedConfig(c)
		how(&x)
		list = append(list, x)
	}
	for _, flag := range []func(*impl.Config) *bool{
		func(x *impl.Config) *bool { return &x.HasAllow }, func(x *impl.Config) *bool { return &x.HasAttrs },
		func(x *impl.Config) *bool { return &x.Comments }, func(x *impl.Config) *bool { return &x.Data },
	} {
		change(func(x *impl.Config) { *flag(x) = !*flag(x) })
	}
	for place := range ruleLists(&c) {
		for _, how := range ruleChanges() {
			change(func(x *impl.Config) { how(ruleLists(x)[place]) })
		}
	}
	for place := range nameLists(&c) {
		for _, how := range nameChanges() {
			change(func(x *impl.Config) { how(nameLists(x)[place]) })
		}
	}
	return list
}

func ruleChanges() []func(*[]impl.Rule) {
	changes := []func(*[]impl.Rule){
		func(l *[]impl.Rule) { *l = append(*l, impl.Rule{Name: "p"}) },
		func(l *[]impl.Rule) { *l = append([]impl.Rule{{Space: 1, Name: "new"}}, *l...) },
		func(l *[]impl.Rule) { *l = append(*l, impl.Rule{Name: "new", Attrs: []string{"id"}}) },
		func(l *[]impl.Rule) { *l = append(*l, (*l)[:min(1, len(*l))]...) },
		func(l *[]impl.Rule) { *l = (*l)[:max(len(*l)-1, 0)] },
		func(l *[]impl.Rule) { slices.Reverse(*l) },
	}
	for _, how := range []func(*impl.Rule){
		func(r *impl.Rule) { r.Space++ }, func(r *impl.Rule) { r.Space-- }, func(r *impl.Rule) { r.Name += "x" }, func(r *impl.Rule) { r.Name = "A" },
		func(r *impl.Rule) { r.Attrs = append(r.Attrs, "new") }, func(r *impl.Rule) { r.Attrs = nil }, func(r *impl.Rule) { slices.Reverse(r.Attrs) },
	} {
		changes = append(changes, func(l *[]impl.Rule) {
			if len(*l) > 0 {
				how(&(*l)[len(*l)-1])
			}
		})
	}
	return changes
}

func nameChanges() []func(*[]string) {
	return []func(*[]string){
		func(l *[]string) { *l = append(*l, "id") },
		func(l *[]string) { *l = append(*l, "new") },
		func(l *[]string) { *l = append(*l, "New") },
		func(l *[]string) { *l = append(*l, (*l)[:min(1, len(*l))]...) },
		func(l *[]string) { *l = (*l)[:max(len(*l)-1, 0)] },
		func(l *[]string) { slices.Reverse(*l) },
	}
}
