package impl

const (
	SpHtml = 0
	SpSvg  = 1
	SpMath = 2
)

const badScheme = "javascript:"

func TagOK(t string) bool {
	return isNameOf(t, isSmall, followsInTag)
}

func followsInTag(c byte) bool {
	return isSmall(c) || isDigit(c) || c == '-'
}

// LowerOf goes by bytes, not by runes: bytes that are no letters of ASCII, of
// texts that are not UTF-8 too, must come out as they went in.
func LowerOf(t string) string {
	if len(t) > MaxText {
		return ""
	}
	lower := []byte(t)
	for i, c := range lower {
		lower[i] = lowerByte(c)
	}
	return string(lower)
}

func lowerByte(c byte) byte {
	if isGreat(c) {
		return c - 'A' + 'a'
	}
	return c
}

func IsVoid(name string) bool {
	switch name {
	case "br", "hr", "img", "input", "meta", "link", "base", "embed":
		return true
	}
	return false
}

func IsRaw(name string) bool {
	switch name {
	case "style", "script", "xmp", "iframe":
		return true
	}
	return false
}

func BreaksOut(name string) bool {
	breakers := map[string]bool{
		"p": true, "div": true, "b": true, "i": true, "br": true,
		"img": true, "ul": true, "li": true, "table": true, "h1": true,
	}
	return breakers[name]
}

func IsBanned(name string) bool {
	banned := map[string]bool{
		"script": true, "iframe": true, "object": true, "embed": true,
		"frame": true, "base": true, "use": true,
	}
	return banned[name]
}

// IsHandler asks for the length of its argument, as no list of names bounds it.
func IsHandler(name string) bool {
	return len(name) <= MaxText && len(name) > 2 && name[:2] == "on"
}

func IsLink(name string) bool {
	links := map[string]bool{
		"href": true, "src": true, "action": true, "formaction": true, "xlink-href": true,
	}
	return links[name]
}

// BadLink compares byte by byte: folding by runes would take other letters,
// such as the long s, for those of the scheme.
func BadLink(value string) bool {
	if len(value) > MaxText {
		return false
	}
	matched := 0
	for i := 0; i < len(value) && matched < len(badScheme); i++ {
		switch c := value[i]; {
		case c == 9, c == 10, c == 13:
			continue
		case c <= 32:
			if matched == 0 {
				continue
			}
			// Behind the first byte of the scheme a blank is a byte like any other.
			fallthrough
		default:
			if lowerByte(c) != badScheme[matched] {
				return false
			}
			matched++
		}
	}
	return matched == len(badScheme)
}

func SpaceOf(name string) int {
	switch name {
	case "svg":
		return SpSvg
	case "math":
		return SpMath
	}
	return SpHtml
}

func isSpace(space int) bool {
	return SpHtml <= space && space <= SpMath
}
