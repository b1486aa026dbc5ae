package tests

import (
	"math/rand"
	"regexp"
	"strconv"
	"strings"

	"loop.example/g00788/impl"
)

// open reads names of what is open, the innermost one last, with svg/ or math/ ahead of those of these spaces.
func open(names string) []impl.Open {
	var stack []impl.Open
	for _, name := range strings.Fields(names) {
		space := impl.SpHtml
		if own, found := strings.CutPrefix(name, "svg/"); found {
			name, space = own, impl.SpSvg
		} else if own, found := strings.CutPrefix(name, "math/"); found {
			name, space = own, impl.SpMath
		}
		stack = append(stack, impl.Open{Name: name, Space: space})
	}
	return stack
}

// brief tells all that a right tree has, words and values in quotes.
func brief(nodes []impl.Node) string {
	var parts []string
	for _, x := range nodes {
		switch x.Kind {
		case impl.NdText:
			parts = append(parts, strconv.Quote(x.Text))
		case impl.NdComment:
			parts = append(parts, "!"+strconv.Quote(x.Text))
		default:
			part := [...]string{"", "svg/", "math/"}[x.Space] + x.Name
			for _, a := range x.Attrs {
				part += " " + a.Name + "=" + strconv.Quote(a.Value)
			}
			parts = append(parts, part+"["+brief(x.Kids)+"]")
		}
	}
	return strings.Join(parts, " ")
}

// told here, what is open is a text: of each element a blank, its name, / and its space.
func toldOpen(stack []impl.Open) string {
	told := ""
	for _, o := range stack {
		told += " " + o.Name + "/" + strconv.Itoa(o.Space)
	}
	return told
}

var (
	foreignEnd = regexp.MustCompile(`( [a-z0-9-]+/[12])+$`)
	rawEnd     = regexp.MustCompile(` (style|script|xmp|iframe)/0$`)
)

func among(list, name string) bool { return strings.Contains(" "+list+" ", " "+name+" ") }

// leftBy reads in another way than the program what is open still when an element has begun: by patterns.
func leftBy(told, name string) string {
	if among("p div b i br img ul li table h1", name) {
		told = foreignEnd.ReplaceAllString(told, "")
	}
	if among("p div ul table h1", name) {
		told = strings.TrimSuffix(told, " p/0")
	}
	if name == "li" {
		told = strings.TrimSuffix(told, " li/0")
	}
	return told
}

func spaceBy(told, name string) int {
	switch {
	case name == "svg":
		return 1
	case name == "math":
		return 2
	case told == "":
		return 0
	}
	return int(told[len(told)-1] - '0')
}

// A plot is a tree as one list: above tells the place of the node that each one lies within, -1 of none.
type plot struct {
	nodes []impl.Node
	above []int
	told  string
	open  []int
}

// builtBy reads chapter 6 in another way than the program, with the other reading of tokens.
func builtBy(t string) ([]impl.Node, int) {
	if len(t) > 4096 {
		return nil, impl.ErrSize
	}
	var p plot
	for at := 0; at < len(t); {
		raw := ""
		if ends := rawEnd.FindStringSubmatch(p.told); ends != nil {
			raw = ends[1]
		}
		token := tokenAt(t, at, raw)
		if raw != "" && token.Kind != impl.TkWords {
			token = impl.Token{Kind: impl.TkClose, Len: token.Len, Name: raw}
		}
		if code := p.read(token); code != impl.OK {
			return nil, code
		}
		at += token.Len
	}
	return p.within(-1), impl.OK
}

func (p *plot) read(token impl.Token) int {
	switch token.Kind {
	case impl.TkWords:
		return p.put(words(token.Text))
	case impl.TkComment:
		return p.put(comment(token.Text))
	case impl.TkOpen:
		p.keep(leftBy(p.told, token.Name))
		space := spaceBy(p.told, token.Name)
		x := inSpace(space, token.Name)
		x.Attrs = token.Attrs
		code := p.put(x)
		if space == 0 && !among("br hr img input meta link base embed", token.Name) || space > 0 && !token.Self {
			p.told += " " + token.Name + "/" + strconv.Itoa(space)
			p.open = append(p.open, len(p.nodes)-1)
		}
		return code
	case impl.TkClose:
		if cut := strings.LastIndex(p.told, " "+token.Name+"/"); cut >= 0 {
			p.keep(p.told[:cut])
		}
	}
	return impl.OK
}

func (p *plot) keep(told string) {
	p.told = told
	p.open = p.open[:strings.Count(told, " ")]
}

func (p *plot) put(x impl.Node) int {
	above, last := -1, -1
	if len(p.open) > 0 {
		above = p.open[len(p.open)-1]
	}
	for i := range p.nodes {
		if p.above[i] == above {
			last = i
		}
	}
	if last >= 0 && x.Kind == impl.NdText && p.nodes[last].Kind == impl.NdText {
		p.nodes[last].Text += x.Text
		if len(p.nodes[last].Text) > 120 {
			return impl.ErrSize
		}
		return impl.OK
	}
	p.nodes, p.above = append(p.nodes, x), append(p.above, above)
	switch {
	case len(p.open) > 9:
		return impl.ErrDeep
	case len(p.nodes) > 60:
		return impl.ErrMany
	case len(x.Text) > 120:
		return impl.ErrSize
	}
	return impl.OK
}

func (p *plot) within(place int) []impl.Node {
	var kids []impl.Node
	for i, x := range p.nodes {
		if p.above[i] == place {
			x.Kids = p.within(i)
			kids = append(kids, x)
		}
	}
	return kids
}

// buildPieces are what texts of trees are made of by chance.
func buildPieces() []string {
	return []string{
		"a", "b c", "&lt;", "<", ">", "\n", "\xff", "\x00", "</", "'", strings.Repeat("w", 50),
		"<p>", "<p>", "</p>", "<p class=x>", "<P>", "<div>", "</div>", "</DIV >", "<b>", "<b/>", "</b>", "<i>", "</i>", "<br>", "<br/>", "</br>", "<hr>", "<img src='x' id=y>", "<embed>",
		"<ul>", "</ul>", "<li>", "<li>", "</li>", "<table>", "</table>", "<h1>", "</h1>", "<a href=\"x\">", "<a/>", "</a>", "<title>", "</title>",
		"<svg>", "<svg>", "<svg/>", "</svg>", "<math>", "<math/>", "</math>", "<g>", "<g/>", "</g>", "<mi>", "</mi>",
		"<style>", "</style>", "</STYLE >", "</style", "<style/>", "<style id=x/>", "<xmp>", "</xmp>", "<script>", "</script/x>", "<iframe>", "</iframe>",
		"<!--c-->", "<!d>", "</>", "<!--", "<x_y>", "</x_y>", "<b ", "</p ",
	}
}

// treeTexts are texts that have a tree, and some that have none.
func treeTexts() []string {
	return []string{
		"<p>a<p>b<ul><li>c<li>d</ul>e", "<p><svg><g/>a<b>b</svg>c<math><mi>d", "<li a=b c='d'>x<li>y<br><hr/>z</li></b>w", "<style><p></style>a<xmp>b</xmp c><svg><style><p>", "a</b>b<x_y>c<!--d--><!e>f",
		bold(10) + "</b><br>", bold(11), breaks(60) + "</b>", breaks(61), long(120) + "</b>", long(60) + "</b>" + long(61), strings.Repeat("</b>", 1024), strings.Repeat("</b>", 1024) + "x",
	}
}

// widePieces make texts of many nodes that are neither deep nor of many words.
func widePieces() []string {
	return strings.Fields("a <br> <p> <p> </p> <li> </ul> <b> </b> </b> <a/> </a> </a> <!--c--> <svg/> <math> </math> <style> </style> </style> <hr/> </i> <x_y>")
}

// anyBuildText is for the most part of whole tags, as one without an end takes much of a text along.
func anyBuildText(random *rand.Rand, most int, pieces []string) string {
	var text strings.Builder
	for range random.Intn(most + 1) {
		piece := pieces[random.Intn(len(pieces))]
		whole := strings.HasPrefix(piece, "<") && strings.HasSuffix(piece, ">")
		switch {
		case random.Intn(100) == 0:
			text.WriteByte(byte(random.Intn(256)))
		case whole || random.Intn(4) == 0:
			text.WriteString(piece)
		default:
			text.WriteString("x")
		}
	}
	return text.String()
}
