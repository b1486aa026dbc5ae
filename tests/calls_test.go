package tests

import (
	"math"
	"math/rand"
	"reflect"
	"strings"
	"sync"
	"testing"

	"loop.example/g00788/impl"
)

// A call is one function with its arguments bound; it answers what the function answers.
type call func() []any

func answers(list ...any) []any { return list }

// manyTexts are right and wrong texts for every function that takes one.
func manyTexts() []string {
	texts := append(allMembers(), oddTexts()...)
	texts = append(texts, codeWords()...)
	texts = append(texts, escapeTexts()...)
	for _, name := range []string{"script", "onclick", "href", "math", "_a9"} {
		texts = append(texts, nearNames(name)...)
	}
	for _, n := range []int{impl.MaxName, impl.MaxName + 1, impl.MaxText, impl.MaxText + 1} {
		for _, p := range []string{"a", "A", "\x00", "\xff", " ", "\n", "&", "<", ">", "-"} {
			texts = append(texts, strings.Repeat(p, n))
		}
	}
	return append(texts, scheme, strings.ToUpper(scheme), " \t"+scheme, "java\nscript:", "java script:", "on", "on\xff", "é", "\xc3\x28")
}

func manyCalls(texts []string) []call {
	var calls []call
	for _, s := range texts {
		calls = append(calls,
			func() []any { return answers(impl.NameOK(s)) },
			func() []any { return answers(impl.CodeOf(s)) },
			func() []any { return answers(impl.TagOK(s)) },
			func() []any { return answers(impl.LowerOf(s)) },
			func() []any { return answers(impl.IsVoid(s)) },
			func() []any { return answers(impl.IsRaw(s)) },
			func() []any { return answers(impl.BreaksOut(s)) },
			func() []any { return answers(impl.IsBanned(s)) },
			func() []any { return answers(impl.IsHandler(s)) },
			func() []any { return answers(impl.IsLink(s)) },
			func() []any { return answers(impl.BadLink(s)) },
			func() []any { return answers(impl.SpaceOf(s)) },
			func() []any { return answers(impl.EscapeText(s)) },
			func() []any { return answers(impl.EscapeValue(s)) },
			func() []any { return answers(impl.Unescape(s)) },
			func() []any { return answers(impl.HasMarkup(s)) },
			func() []any { return answers(impl.CommentOK(s)) },
		)
	}
	for _, code := range []int{math.MinInt, -1, 0, 1, 9, 17, 18, 19, 1 << 40, math.MaxInt} {
		calls = append(calls, func() []any { return answers(impl.CodeWord(code)) })
	}
	return calls
}

// TestAnswersHangOnArgumentsAlone fails, too, if a call panics.
func TestAnswersHangOnArgumentsAlone(t *testing.T) {
	texts := manyTexts()
	before := make([]string, len(texts))
	for i, s := range texts {
		before[i] = strings.Clone(s)
	}
	calls := manyCalls(texts)
	first := make([][]any, len(calls))
	for i, c := range calls {
		first[i] = c()
	}
	check := func(i int) {
		if got := calls[i](); !reflect.DeepEqual(got, first[i]) {
			t.Errorf("call %d answers %.60q, at first %.60q", i, got, first[i])
		}
	}
	for i := len(calls) - 1; i >= 0; i-- {
		check(i)
	}
	var workers sync.WaitGroup
	for seed := range int64(4) {
		workers.Go(func() {
			for _, i := range rand.New(rand.NewSource(seed)).Perm(len(calls)) {
				check(i)
			}
		})
	}
	workers.Wait()
	if !reflect.DeepEqual(texts, before) {
		t.Error("a call changed an argument")
	}
}

// TestAlikeTextsOfOtherMemory holds texts against copies of them and against parts of longer ones.
func TestAlikeTextsOfOtherMemory(t *testing.T) {
	texts := manyTexts()
	copies := make([]string, len(texts))
	for i, s := range texts {
		copies[i] = ("javascript:" + s + "onclick")[len("javascript:"):][:len(s)]
	}
	calls, again := manyCalls(texts), manyCalls(copies)
	for i := range calls {
		if got, want := again[i](), calls[i](); !reflect.DeepEqual(got, want) {
			t.Errorf("call %d of an alike argument answers %.60q, want %.60q", i, got, want)
		}
	}
}
