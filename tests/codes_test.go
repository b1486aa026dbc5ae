package tests

import (
	"math"
	"strings"
	"testing"

	"loop.example/g00788/impl"
)

func codeWords() []string {
	return strings.Fields("ok bad long form range none many full size kind name deep handle config again unsafe place state same")
}

func TestCodeNumbers(t *testing.T) {
	codes := []int{
		impl.OK, impl.ErrBad, impl.ErrLong, impl.ErrForm, impl.ErrRange, impl.ErrNone, impl.ErrMany, impl.ErrFull, impl.ErrSize, impl.ErrKind,
		impl.ErrName, impl.ErrDeep, impl.ErrHandle, impl.ErrConfig, impl.ErrAgain, impl.ErrUnsafe, impl.ErrPlace, impl.ErrState, impl.ErrSame,
	}
	for want, code := range codes {
		if code != want {
			t.Errorf("the constant of the word %q is %d, want %d", codeWords()[want], code, want)
		}
	}
	if impl.MaxText != 65536 || impl.MaxList != 4096 || impl.MaxName != 12 {
		t.Error("bounds:", impl.MaxText, impl.MaxList, impl.MaxName)
	}
	if impl.SpHtml != 0 || impl.SpSvg != 1 || impl.SpMath != 2 {
		t.Error("spaces:", impl.SpHtml, impl.SpSvg, impl.SpMath)
	}
}

func TestCodeWordsAreReadBack(t *testing.T) {
	for code, word := range codeWords() {
		if got := impl.CodeWord(code); got != word {
			t.Errorf("CodeWord(%d) = %q, want %q", code, got, word)
		}
		if got := impl.CodeOf(word); got != code {
			t.Errorf("CodeOf(%q) = %d, want %d", word, got, code)
		}
	}
}

func TestCodesThatAreNone(t *testing.T) {
	for _, code := range []int{-1, -18, 19, 20, 256, 1 << 32, math.MaxInt, math.MinInt} {
		if got := impl.CodeWord(code); got != "" {
			t.Errorf("CodeWord(%d) = %q, want nothing", code, got)
		}
	}
	words := []string{
		"", " ", "OK", "Ok", " ok", "ok ", "o", "okok", "Bad", "ErrBad", "0", "1", "\x00", "ok\x00", "\xff",
		strings.Repeat("o", impl.MaxText), strings.Repeat("o", impl.MaxText+1), "ok" + strings.Repeat(" ", impl.MaxText),
	}
	for _, word := range words {
		if got := impl.CodeOf(word); got != -1 {
			t.Errorf("CodeOf(%.20q of %d bytes) = %d, want -1", word, len(word), got)
		}
	}
}
