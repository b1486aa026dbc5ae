package tests

import (
	"strings"
	"testing"

	"loop.example/g00788/impl"
)

const (
	smallLetters = "abcdefghijklmnopqrstuvwxyz"
	greatLetters = "ABCDEFGHIJKLMNOPQRSTUVWXYZ"
	digits       = "0123456789"
)

// sorts of names, each with all of its members as chapter 2 lists them.
func sorts() []struct {
	name    string
	tells   func(string) bool
	members string
} {
	return []struct {
		name    string
		tells   func(string) bool
		members string
	}{
		{"IsVoid", impl.IsVoid, "br hr img input meta link base embed"},
		{"IsRaw", impl.IsRaw, "style script xmp iframe"},
		{"BreaksOut", impl.BreaksOut, "p div b i br img ul li table h1"},
		{"IsBanned", impl.IsBanned, "script iframe object embed frame base use"},
		{"IsLink", impl.IsLink, "href src action formaction xlink-href"},
	}
}

func allMembers() []string {
	var all []string
	for _, s := range sorts() {
		all = append(all, strings.Fields(s.members)...)
	}
	return append(append(all, "svg", "math", "onclick"), strings.Fields(otherNames)...)
}

// otherNames are in none of the sorts, though the larger markup of the world has many of them there.
const otherNames = "a span h2 h3 h6 ol dl dd dt em hr1 body head html title textarea plaintext noscript noembed noframes noscripts " +
	"area col param source track wbr keygen command frameset applet portal template form button video audio picture image " +
	"g path foreignobject animate set mi mo mtext mglyph annotation-xml desc styles scripts iframes xmps " +
	"data cite poster background codebase longdesc srcset srcdoc style1 class id xlink-hre xlink ping manifest http-equiv"

// nearNames are texts that differ a little from a name: none of them is one of the sorts.
func nearNames(name string) []string {
	return []string{
		strings.ToUpper(name), strings.ToUpper(name[:1]) + name[1:], strings.ToUpper(name[:1]) + name[1:] + "X",
		" " + name, name + " ", "\t" + name, name + "\n", name + "\x00", "\x00" + name, name + "\xff", "<" + name, name + "/", name + "-", "x" + name + "x",
		name + strings.Repeat(" ", impl.MaxText), strings.Repeat(name, impl.MaxText),
	}
}

// oddTexts are no names of any sort.
func oddTexts() []string {
	odd := []string{"", " ", "-", "_", "0", "é", "\u212a", "br hr", "script,iframe", "href src", strings.Repeat("a", impl.MaxText), strings.Repeat("a", impl.MaxText+1)}
	for c := range 256 {
		if !strings.Contains("pbi", string(rune(c))) {
			odd = append(odd, string([]byte{byte(c)}))
		}
	}
	return odd
}

func TestSortsOfNames(t *testing.T) {
	for _, s := range sorts() {
		members := map[string]bool{}
		for _, m := range strings.Fields(s.members) {
			members[m] = true
		}
		for _, name := range allMembers() {
			if got := s.tells(name); got != members[name] {
				t.Errorf("%s(%q) = %v, want %v", s.name, name, got, members[name])
			}
			for _, near := range nearNames(name) {
				if s.tells(near) {
					t.Errorf("%s(%.30q) is true", s.name, near)
				}
			}
		}
		for _, odd := range oddTexts() {
			if s.tells(odd) {
				t.Errorf("%s(%.30q) is true", s.name, odd)
			}
		}
	}
}

func TestSpaceOf(t *testing.T) {
	for _, name := range append(allMembers(), oddTexts()...) {
		want := impl.SpHtml
		if name == "svg" {
			want = impl.SpSvg
		} else if name == "math" {
			want = impl.SpMath
		}
		if got := impl.SpaceOf(name); got != want {
			t.Errorf("SpaceOf(%.30q) = %d, want %d", name, got, want)
		}
	}
	for _, name := range append(nearNames("svg"), nearNames("math")...) {
		if got := impl.SpaceOf(name); got != impl.SpHtml {
			t.Errorf("SpaceOf(%.30q) = %d", name, got)
		}
	}
}

func TestIsHandler(t *testing.T) {
	yes := []string{"onx", "on ", "on\x00", "on-", "on1", "onX", "onclick", "onerror", "ononon", "on\xff", "on" + strings.Repeat("x", impl.MaxText-2)}
	no := []string{
		"", "o", "n", "on", "no", "xon", "xonclick", " onclick", "\x00onclick", "o-n", "oclick", "nonclick", "ooclick",
		"ON", "On", "ONX", "Onclick", "oNclick", "ONCLICK", "\xffon", "on" + strings.Repeat("x", impl.MaxText-1),
	}
	checkAll(t, "IsHandler", impl.IsHandler, yes, no)
}

func checkAll(t *testing.T, name string, tells func(string) bool, yes, no []string) {
	t.Helper()
	for _, s := range yes {
		if !tells(s) {
			t.Errorf("%s(%.40q of %d bytes) is false", name, s, len(s))
		}
	}
	for _, s := range no {
		if tells(s) {
			t.Errorf("%s(%.40q of %d bytes) is true", name, s, len(s))
		}
	}
}

func TestNameBytes(t *testing.T) {
	forms := []struct {
		name            string
		tells           func(string) bool
		begins, follows string
	}{
		{"NameOK", impl.NameOK, smallLetters + greatLetters + "_", smallLetters + greatLetters + digits + "_"},
		{"TagOK", impl.TagOK, smallLetters, smallLetters + digits + "-"},
	}
	for _, f := range forms {
		for c := range 256 {
			b := string([]byte{byte(c)})
			if got, want := f.tells(b), strings.Contains(f.begins, b); got != want {
				t.Errorf("%s(%q) = %v", f.name, b, got)
			}
			for _, s := range []string{"a" + b, "a" + b + "a", "elevenbytes" + b} {
				if got, want := f.tells(s), strings.Contains(f.follows, b); got != want {
					t.Errorf("%s(%q) = %v", f.name, s, got)
				}
			}
		}
	}
}

func TestNameLengths(t *testing.T) {
	twelve := strings.Repeat("a", 12)
	no := []string{"", twelve + "a", twelve + " ", strings.Repeat("a", impl.MaxText), strings.Repeat("a", impl.MaxText+1)}
	checkAll(t, "NameOK", impl.NameOK, []string{"a", "_", "Z", "_Zz9", twelve, "A" + twelve[1:]}, no)
	checkAll(t, "TagOK", impl.TagOK, []string{"a", "z-", "a1", "a--9", twelve, "xlink-href"}, no)
}

func TestLowerOfBytes(t *testing.T) {
	for c := range 256 {
		b := string([]byte{byte(c)})
		want := b
		if i := strings.Index(greatLetters, b); i >= 0 {
			want = smallLetters[i : i+1]
		}
		if got := impl.LowerOf(b); got != want {
			t.Errorf("LowerOf(%q) = %q, want %q", b, got, want)
		}
		if got := impl.LowerOf("X" + b + "Y"); got != "x"+want+"y" {
			t.Errorf("LowerOf within: %q = %q", b, got)
		}
	}
}

func TestLowerOfTexts(t *testing.T) {
	for text, want := range map[string]string{
		"": "", "a": "a", "SCRIPT": "script", "xLink-HREF": "xlink-href", "A_9-Z": "a_9-z",
		"É": "É", "\u212a": "\u212a", "\u0130I": "\u0130i", "\xc3\x28\xffA": "\xc3\x28\xffa", "A\x00B": "a\x00b",
	} {
		if got := impl.LowerOf(text); got != want {
			t.Errorf("LowerOf(%q) = %q, want %q", text, got, want)
		}
	}
	if got := impl.LowerOf(strings.Repeat("A", impl.MaxText)); got != strings.Repeat("a", impl.MaxText) {
		t.Errorf("LowerOf of MaxText bytes has %d bytes", len(got))
	}
	if got := impl.LowerOf(strings.Repeat("A", impl.MaxText+1)); got != "" {
		t.Errorf("LowerOf of more than MaxText bytes has %d bytes", len(got))
	}
}
