package tests

import (
	"reflect"
	"slices"
	"strings"
	"testing"

	"loop.example/g00788/impl"
)

// differingTokens are no two alike.
func differingTokens() []impl.Token {
	tokens := []impl.Token{
		{}, {Kind: 1}, {Kind: 2}, {Kind: -1}, {Kind: 1 << 40}, {At: 1}, {At: -1}, {At: 1 << 32}, {Len: 1}, {Len: -1}, {Len: 1 << 32}, {Name: "a"}, {Name: "A"}, {Name: "b"}, {Name: "ab"}, {Text: "a"}, {Text: "A"}, {Text: "a "}, {Self: true},
		{Kind: 1, At: 1}, {Kind: 1, Len: 1}, {At: 1, Len: 2}, {At: 2, Len: 1}, {Name: "a", Text: "b"}, {Name: "b", Text: "a"}, {Name: "\xff"}, {Text: "\xfe"}, {Text: "\ufffd"},
		{Name: strings.Repeat("a", impl.MaxText+1)}, {Name: strings.Repeat("a", impl.MaxText+2)}, {Text: strings.Repeat("a", impl.MaxText+1)}, {Text: strings.Repeat("a", impl.MaxText) + "b"},
	}
	for _, pairs := range [][]string{
		{"", ""}, {"a", ""}, {"", "a"}, {"a", "1"}, {"a", "2"}, {"b", "1"}, {"A", "1"}, {"a", "1", "b", "2"}, {"b", "2", "a", "1"}, {"a", "1", "b", "3"}, {"a", "1", "c", "2"},
		{"a", "1", "a", "1"}, {"a", "1", "b", "2", "c", "3"}, {"a", "1", "b", "2", "", ""},
	} {
		tokens = append(tokens, opening("a", pairs...), itself(opening("a", pairs...)))
	}
	for _, n := range []int{impl.MaxAttrs + 1, impl.MaxList + 1} {
		tokens = append(tokens, impl.Token{Attrs: make([]impl.Attr, n)})
	}
	return append(tokens, opening("a"), itself(opening("a")))
}

func TestSameToken(t *testing.T) {
	tokens := differingTokens()
	for i, a := range tokens {
		for k, b := range tokens {
			if got := impl.SameToken(a, tokenWithRoom(b)); got != (i == k) {
				t.Errorf("SameToken of tokens %d and %d = %v: %.100s %.100s", i, k, got, told(a), told(b))
			}
		}
	}
	for _, s := range tokenTexts() {
		a, _ := impl.TokensOf(s)
		b, _ := impl.TokensOf(strings.Clone(s))
		if !slices.EqualFunc(a, b, impl.SameToken) {
			t.Errorf("alike texts have tokens that are not alike: %q", s)
		}
	}
}

// tokenWithRoom has other attributes behind the end of its list, and an empty list in the place of nil.
func tokenWithRoom(x impl.Token) impl.Token {
	room := append(make([]impl.Attr, 0, len(x.Attrs)+1), x.Attrs...)
	x.Attrs = append(room, impl.Attr{Name: "behind"})[:len(x.Attrs)]
	return x
}

func TestSameTokenChangesNothing(t *testing.T) {
	tokens := differingTokens()
	for i := range tokens {
		tokens[i] = tokenWithRoom(tokens[i])
	}
	var calls []call
	for i, a := range tokens {
		for _, b := range tokens[:i+1] {
			calls = append(calls, func() []any { return answers(impl.SameToken(a, b)) })
		}
	}
	before := told(tokens...)
	checkCallsStay(t, calls)
	for i, x := range tokens {
		if behind := x.Attrs[:len(x.Attrs)+1]; behind[len(x.Attrs)].Name != "behind" {
			t.Errorf("SameToken wrote behind the end of token %d", i)
		}
	}
	if told(tokens...) != before {
		t.Error("SameToken changed an argument")
	}
}

// TestTokensAnsweredAreNewMemory writes into answers, and asks again.
func TestTokensAnsweredAreNewMemory(t *testing.T) {
	for _, s := range tokenTexts() {
		first, _ := impl.TokensOf(s)
		before := told(first...)
		var nodes []impl.Node
		for _, x := range first {
			nodes = append(nodes, impl.Node{Attrs: x.Attrs})
		}
		noListsShared(t, nodes)
		for place := range s {
			token, _ := impl.NextToken(s, place, "")
			spoil([]impl.Node{{Attrs: token.Attrs}})
		}
		second, _ := impl.TokensOf(s)
		spoil(nodes)
		if third, _ := impl.TokensOf(s); told(second...) != before || told(third...) != before || !reflect.DeepEqual(second, third) {
			t.Errorf("answers of %q share memory: %s, then %s and %s", s, before, told(second...), told(third...))
		}
	}
}
