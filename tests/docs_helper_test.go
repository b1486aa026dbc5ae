package tests

import (
	"fmt"
	"reflect"
	"slices"
	"strings"
	"testing"

	"loop.example/g00788/impl"
)

func doc(name string, kids ...impl.Node) impl.Doc { return impl.Doc{Name: name, Kids: kids} }

// housing has two configurations, of which the second one lets most stay.
func housing(docs ...impl.Doc) impl.House {
	return impl.House{Docs: docs, Configs: []impl.Config{impl.DefaultConfig(), config("comments")}}
}

func creating(place int, name string) impl.Call {
	return impl.Call{Kind: impl.ClCreate, Doc: place, Name: name}
}

func addingElement(place int, name string, path ...int) impl.Call {
	return impl.Call{Kind: impl.ClElement, Doc: place, Name: name, Path: path}
}

func addingWords(place int, text string, path ...int) impl.Call {
	return impl.Call{Kind: impl.ClWords, Doc: place, Text: text, Path: path}
}

func addingAttr(place int, name, value string, path ...int) impl.Call {
	return impl.Call{Kind: impl.ClAttr, Doc: place, Name: name, Text: value, Path: path}
}

func taking(place int, path ...int) impl.Call {
	return impl.Call{Kind: impl.ClRemove, Doc: place, Path: path}
}

func setting(place, config int, text string) impl.Call {
	return impl.Call{Kind: impl.ClSet, Doc: place, Config: config, Text: text}
}

func settingUnsafely(place int, text string) impl.Call {
	return impl.Call{Kind: impl.ClUnsafe, Doc: place, Text: text}
}

func sanitizing(place, config int) impl.Call {
	return impl.Call{Kind: impl.ClSanitize, Doc: place, Config: config}
}

func getting(place int) impl.Call { return impl.Call{Kind: impl.ClGet, Doc: place} }

// callsOn are one of each kind, all of them right in themselves.
func callsOn(place int) []impl.Call {
	return []impl.Call{
		creating(place, "p"), addingElement(place, "b", 0), addingWords(place, "x", 0), addingAttr(place, "id", "x", 0), taking(place, 0),
		setting(place, 0, "x"), settingUnsafely(place, "x"), sanitizing(place, 0), getting(place),
	}
}

// showHouse tells houses apart; nil and empty lists are alike in it.
func showHouse(h impl.House) string {
	var parts []string
	for _, d := range h.Docs {
		parts = append(parts, fmt.Sprintf("%q: %s", d.Name, show(d.Kids)))
	}
	for _, c := range h.Configs {
		parts = append(parts, "by "+showConfig(c))
	}
	return strings.Join(parts, "\n")
}

// briefDocs tells the documents of a right house.
func briefDocs(h impl.House) string {
	var parts []string
	for _, d := range h.Docs {
		parts = append(parts, d.Name+"{"+brief(d.Kids)+"}")
	}
	return strings.Join(parts, " ")
}

func showCall(c impl.Call) string {
	return fmt.Sprintf("%d %d %d %v %.60q %.200q", c.Kind, c.Doc, c.Config, c.Path, c.Name, c.Text)
}

// mappedHouse has other lists in the place of a house's.
func mappedHouse(h impl.House, nodes func([]impl.Node) []impl.Node, made func(impl.Config) impl.Config) impl.House {
	var out impl.House
	for _, d := range h.Docs {
		out.Docs = append(out.Docs, impl.Doc{Name: d.Name, Kids: nodes(d.Kids)})
	}
	for _, c := range h.Configs {
		out.Configs = append(out.Configs, made(c))
	}
	return out
}

// copiedHouse has nil in the place of empty lists, and no room.
func copiedHouse(h impl.House) impl.House {
	copied := mappedHouse(h, copied, copiedConfig)
	return impl.House{Docs: clipped(copied.Docs), Configs: clipped(copied.Configs)}
}

// houseWithRoom has others behind the ends of the lists, and empty lists in the place of nil.
func houseWithRoom(h impl.House) impl.House {
	roomy := mappedHouse(h, withRoom, configWithRoom)
	roomy.Docs = append(append(make([]impl.Doc, 0, len(h.Docs)+3), roomy.Docs...), doc("behind", words("behind")))[:len(h.Docs)]
	roomy.Configs = configsWithRoom(roomy.Configs)
	return roomy
}

func configsWithRoom(configs []impl.Config) []impl.Config {
	return append(append(make([]impl.Config, 0, len(configs)+3), configs...), impl.Config{Attrs: []string{"behind"}})[:len(configs)]
}

// shownHouse tells what stands behind the ends, too.
func shownHouse(h impl.House) string {
	wholly := mappedHouse(impl.House{Docs: h.Docs[:cap(h.Docs)], Configs: h.Configs[:cap(h.Configs)]}, whole, wholeConfig)
	return fmt.Sprint(len(h.Docs), len(h.Configs), "\n", showHouse(wholly))
}

func callWithRoom(c impl.Call) impl.Call {
	c.Path = append(append(make([]int, 0, len(c.Path)+2), c.Path...), 1)[:len(c.Path)]
	return c
}

func callsWithRoom(calls []impl.Call) []impl.Call {
	roomy := make([]impl.Call, 0, len(calls)+2)
	for _, c := range calls {
		roomy = append(roomy, callWithRoom(c))
	}
	return append(roomy, creating(0, "behind"))[:len(calls)]
}

func shownCalls(calls []impl.Call) string {
	var shown []string
	for _, c := range calls[:cap(calls)] {
		c.Path = c.Path[:cap(c.Path)]
		shown = append(shown, showCall(c))
	}
	return strings.Join(shown, "\n")
}

// spoilHouse writes into all lists of a house, and behind their ends.
func spoilHouse(h impl.House) {
	docs, configs := h.Docs[:cap(h.Docs)], h.Configs[:cap(h.Configs)]
	for i := range docs {
		spoil(docs[i].Kids)
		docs[i] = doc("spoilt", words("spoilt"))
	}
	for i := range configs {
		spoilConfig(configs[i])
		configs[i] = impl.Config{Data: true, Drop: []string{"spoilt"}}
	}
}

// listsOfHouses are all lists of these, to be held apart.
func listsOfHouses(houses ...impl.House) []reflect.Value {
	var lists []reflect.Value
	for _, h := range houses {
		lists = append(lists, reflect.ValueOf(h.Docs), reflect.ValueOf(h.Configs))
		for _, d := range h.Docs {
			lists = append(lists, listsOfTree(d.Kids)...)
		}
		for _, c := range h.Configs {
			lists = append(lists, listsOf(c)...)
		}
	}
	return lists
}

const (
	voidNames = "br hr img input meta link base embed"
	rawNames  = "style script xmp iframe"
)

// isHouseBy reads HouseOK in another way than the program.
func isHouseBy(h impl.House) bool {
	codes := 0
	for _, c := range h.Configs {
		codes += codeBy(c)
	}
	return len(h.Docs) <= 6 && len(h.Configs) <= 4 && codes == 0 && !slices.ContainsFunc(h.Docs, func(d impl.Doc) bool { return !isDocBy(d) })
}

func isDocBy(d impl.Doc) bool {
	if !tagName.MatchString(d.Name) || !isTree(d.Kids) {
		return false
	}
	kinds := ""
	for _, x := range d.Kids {
		kinds += fmt.Sprint(x.Kind)
	}
	if among(rawNames, d.Name) {
		return strings.Trim(kinds, "2") == ""
	}
	return kinds == "" || !among(voidNames, d.Name)
}

// isCallBy reads CallOK in another way: by what a call has that is wrong for its kind, or missing.
func isCallBy(c impl.Call) bool {
	if c.Kind < 1 || c.Kind > 9 || c.Doc < 0 || c.Doc > 5 || len(c.Path) > 10 || len(c.Text) > 4096 || c.Config < 0 || c.Config > 3 {
		return false
	}
	for _, place := range c.Path {
		if place < 0 || place > 60 {
			return false
		}
	}
	may := strings.Split("- N PN PT PNT P CT T C -", " ")[c.Kind]
	if strings.Contains(may, "N") != tagName.MatchString(c.Name) || len(c.Name) > 0 && !strings.Contains(may, "N") {
		return false
	}
	return (len(c.Path) == 0 || strings.Contains(may, "P")) && (c.Config == 0 || strings.Contains(may, "C")) && (c.Text == "" || strings.Contains(may, "T"))
}

// builtInBy reads BuildIn in another way, of right names.
func builtInBy(t, name string) ([]impl.Node, int) {
	switch {
	case among(voidNames, name) || among(rawNames, name) && t == "":
		return nil, impl.OK
	case among(rawNames, name) && len(t) > 120:
		return nil, impl.ErrSize
	case among(rawNames, name):
		return tree(words(t)), impl.OK
	}
	return builtBy(t)
}

// leftInBy is what is left of a document's Kids, sanitized.
func leftInBy(d impl.Doc, c impl.Config) []impl.Node {
	for _, x := range d.Kids {
		if among(rawNames, d.Name) && strings.Contains(x.Text, "<") {
			return nil
		}
	}
	return sanitizedBy(d.Kids, c)
}

func gottenBy(d impl.Doc) string {
	if !among(rawNames, d.Name) {
		return writtenBy(d.Kids)
	}
	var text strings.Builder
	for _, x := range d.Kids {
		text.WriteString(x.Text)
	}
	return text.String()
}

// doneBy reads DoCall in another way than the program, with the second readings of the chapters ahead.
func doneBy(h impl.House, c impl.Call) (impl.House, impl.Answer, int) {
	if !isHouseBy(h) || !isCallBy(c) {
		return impl.House{}, impl.Answer{}, impl.ErrBad
	}
	refused := func(code int) (impl.House, impl.Answer, int) { return h, impl.Answer{Code: code}, impl.OK }
	many := len(h.Docs)
	after := impl.House{Docs: slices.Clone(h.Docs), Configs: h.Configs}
	switch {
	case c.Kind == 1 && many == 6:
		return refused(impl.ErrFull)
	case c.Kind == 1 && c.Doc != many, c.Kind != 1 && c.Doc >= many:
		return refused(impl.ErrHandle)
	case (c.Kind == 6 || c.Kind == 8) && c.Config >= len(h.Configs):
		return refused(impl.ErrConfig)
	case c.Kind == 1:
		after.Docs = append(after.Docs, doc(c.Name))
		return after, impl.Answer{}, impl.OK
	case c.Kind == 9:
		return after, impl.Answer{Text: gottenBy(h.Docs[c.Doc])}, impl.OK
	}
	d := &after.Docs[c.Doc]
	if code := changedBy(d, c, h.Configs); code != impl.OK {
		return refused(code)
	}
	if !isDocBy(*d) {
		return refused(impl.ErrFull)
	}
	return after, impl.Answer{}, impl.OK
}

// changedBy is for calls of the kinds 2 to 8 with a document and a configuration that are there.
func changedBy(d *impl.Doc, c impl.Call, configs []impl.Config) int {
	code := impl.OK
	switch c.Kind {
	case 2:
		space := map[string]int{"svg": 1, "math": 2}[c.Name]
		d.Kids, code = editedBy(d.Kids, inserting(inSpace(space, c.Name), c.Path...))
	case 3:
		d.Kids, code = editedBy(d.Kids, inserting(words(c.Text), c.Path...))
	case 4:
		d.Kids, code = editedBy(d.Kids, settingAttr(c.Name, c.Text, c.Path...))
	case 5:
		d.Kids, code = editedBy(d.Kids, removing(c.Path...))
	case 6:
		if among(bannedNames, d.Name) {
			return impl.ErrUnsafe
		}
		d.Kids, code = builtInBy(c.Text, d.Name)
		d.Kids = leftInBy(*d, configs[c.Config])
	case 7:
		d.Kids, code = builtInBy(c.Text, d.Name)
	case 8:
		d.Kids = leftInBy(*d, configs[c.Config])
	}
	return code
}

// checkCall holds a call against what is to come of it. Its arguments have room behind their lists' ends: they stay as they are, and the answer shares no memory with them.
func checkCall(t *testing.T, h impl.House, c impl.Call, want impl.House, due impl.Answer, code int) {
	t.Helper()
	h, c = houseWithRoom(h), callWithRoom(c)
	before, callBefore := shownHouse(h), shownCalls([]impl.Call{c})
	after, answer, got := impl.DoCall(h, c)
	if showHouse(after) != showHouse(want) || answer != due || got != code {
		t.Errorf("%s in %.300s\nmakes %.600s, %d %.200q, %d\nwant %.600s, %d %.200q, %d", showCall(c), showHouse(h), showHouse(after), answer.Code, answer.Text, got, showHouse(want), due.Code, due.Text, code)
	}
	checkApart(t, append(listsOfHouses(after, h), reflect.ValueOf(c.Path)))
	spoilHouse(after)
	if shownHouse(h) != before || shownCalls([]impl.Call{c}) != callBefore {
		t.Errorf("%s in %.300s changes an argument, or its answer shares memory with one", callBefore, before)
	}
}

// checkDone takes the documents that are there then in brief, and the answer's Text, told by hand, and holds them against the second reading, too.
func checkDone(t *testing.T, h impl.House, c impl.Call, docs, text string) {
	t.Helper()
	after, answer, code := doneBy(h, c)
	if briefDocs(after) != docs || answer != (impl.Answer{Text: text}) || code != impl.OK {
		t.Errorf("by the second reading %s in %.300s makes %.300s, %d %.200q, %d, by hand %.300s, %q", showCall(c), briefDocs(h), briefDocs(after), answer.Code, answer.Text, code, docs, text)
	}
	checkCall(t, h, c, after, impl.Answer{Text: text}, impl.OK)
}

// checkRefused takes an answer's code told by hand: with it the house is as it was.
func checkRefused(t *testing.T, h impl.House, c impl.Call, due int) {
	t.Helper()
	after, answer, code := doneBy(h, c)
	if showHouse(after) != showHouse(h) || answer != (impl.Answer{Code: due}) || code != impl.OK {
		t.Errorf("by the second reading %s in %.300s has the answer %d %.200q, %d, by hand %d", showCall(c), showHouse(h), answer.Code, answer.Text, code, due)
	}
	checkCall(t, h, c, h, impl.Answer{Code: due}, impl.OK)
}

// checkBad is for houses and calls that are none.
func checkBad(t *testing.T, h impl.House, c impl.Call) {
	t.Helper()
	after, answer, code := impl.DoCall(h, c)
	if len(after.Docs)+len(after.Configs) != 0 || answer != (impl.Answer{}) || code != impl.ErrBad {
		t.Errorf("%s makes %.300s, %d %.200q, %d, want ErrBad", showCall(c), showHouse(after), answer.Code, answer.Text, code)
	}
}
