package tests

import (
	"fmt"
	"slices"
	"testing"

	"loop.example/g00788/impl"
)

// flattenedBy reads Flatten in another way than the program: by the list of the nodes.
func flattenedBy(nodes []impl.Node) []string {
	var lines []string
	for _, p := range listed(nodes) {
		lines = append(lines, map[int]string{1: fmt.Sprintf("element %d %s", p.node.Space, p.node.Name), 2: "text " + p.node.Text, 3: "comment " + p.node.Text}[p.node.Kind])
	}
	return lines
}

// isPartBy reads PartOf in another way: it counts how many lines both have in one order, at most.
func isPartBy(part, all []string) bool {
	most := make([]int, len(all)+1)
	for _, line := range part {
		ahead := 0
		for k, other := range all {
			without := max(most[k], most[k+1])
			if line == other {
				without = ahead + 1
			}
			ahead, most[k+1] = most[k+1], without
		}
	}
	return most[len(all)] == len(part)
}

// never is more times than a tree can be built.
const never = impl.MaxDepth + 1

// harmFromBy tells how often a tree has to be built until there is harm, by the second readings of four chapters.
func harmFromBy(nodes []impl.Node) int {
	for k := range never {
		if _, harm := firstBy(nodes, harmBy); harm {
			return k
		}
		meant, code := builtBy(writtenBy(nodes))
		if code != impl.OK {
			break
		}
		nodes = meant
	}
	return never
}

// survivorsBy reads Survivors by the second readings of three chapters.
func survivorsBy(nodes []impl.Node, c impl.Config) []string {
	var names []string
	for _, p := range listed(sanitizedBy(nodes, c)) {
		if p.node.Kind == 1 && !slices.Contains(names, p.node.Name) {
			names = append(names, p.node.Name)
		}
	}
	return names
}

// againBy is the code that BuiltAgain has to tell of a text.
func againBy(s string) int {
	if len(s) > 65536 {
		return impl.ErrLong
	}
	meant, code := builtBy(s)
	if code == impl.OK && len(writtenBy(meant)) > 4096 {
		return impl.ErrSize
	}
	return code
}

func checkSafeTimes(t *testing.T, nodes []impl.Node, k int, want bool, due int) {
	t.Helper()
	if yes, code := impl.SafeTimes(nodes, k); yes != want || code != due {
		t.Errorf("SafeTimes(%.300s, %d) = %v, %d, want %v, %d", brief(nodes), k, yes, code, want, due)
	}
}

// checkHarmFrom has all numbers of times, and those beside them.
func checkHarmFrom(t *testing.T, nodes []impl.Node, from int) {
	t.Helper()
	if by := harmFromBy(nodes); by != from {
		t.Errorf("by the second reading there is harm in %.300s from %d on, by hand from %d on", brief(nodes), by, from)
	}
	for k := range never {
		checkSafeTimes(t, nodes, k, k < from, impl.OK)
	}
	checkSafeTimes(t, nodes, never, false, impl.ErrRange)
	checkSafeTimes(t, nodes, -1, false, impl.ErrRange)
}

// checkFlat takes right trees.
func checkFlat(t *testing.T, nodes []impl.Node, want ...string) {
	t.Helper()
	if lines, code := impl.Flatten(nodes); !slices.Equal(lines, want) || code != impl.OK {
		t.Errorf("Flatten(%.300s) = %.600q, %d, want %.600q", brief(nodes), lines, code, want)
	}
	if by := flattenedBy(nodes); !slices.Equal(by, want) {
		t.Errorf("by the second reading %.300s has the lines %.600q, want %.600q", brief(nodes), by, want)
	}
}

// checkPart takes right trees.
func checkPart(t *testing.T, a, b []impl.Node, want bool) {
	t.Helper()
	if yes, code := impl.PartOf(a, b); yes != want || code != impl.OK {
		t.Errorf("PartOf(%.300s, %.300s) = %v, %d, want %v", brief(a), brief(b), yes, code, want)
	}
	if by := isPartBy(flattenedBy(a), flattenedBy(b)); by != want {
		t.Errorf("by the second reading %.300s in %.300s is %v, want %v", brief(a), brief(b), by, want)
	}
}

// checkAgain holds promise 8 of a text: either what it means is built again, or there is a code.
func checkAgain(t *testing.T, s string, due int) {
	t.Helper()
	if yes, code := impl.BuiltAgain(s); yes != (due == impl.OK) || code != due {
		t.Errorf("BuiltAgain(%.300q) of %d bytes = %v, %d, want code %d", s, len(s), yes, code, due)
	}
	if by := againBy(s); by != due {
		t.Errorf("by the second reading %.300q of %d bytes has code %d, want %d", s, len(s), by, due)
	}
}

// checkSurvivors takes right trees and configurations.
func checkSurvivors(t *testing.T, nodes []impl.Node, c impl.Config, want ...string) {
	t.Helper()
	if names, code := impl.Survivors(nodes, c); !slices.Equal(names, want) || code != impl.OK {
		t.Errorf("Survivors(%.300s) by %s = %q, %d, want %q", brief(nodes), showConfig(c), names, code, want)
	}
	if by := survivorsBy(nodes, c); !slices.Equal(by, want) {
		t.Errorf("by the second reading there survive of %.300s by %s %q, want %q", brief(nodes), showConfig(c), by, want)
	}
}

// checkLeftOnce is promise 11 of a right tree and configuration: what is left is left again, and stands in the tree.
func checkLeftOnce(t *testing.T, nodes []impl.Node, c impl.Config) []impl.Node {
	t.Helper()
	left, code := impl.Sanitize(nodes, c)
	again, c1 := impl.Sanitize(left, c)
	twice, c2 := impl.SanitizedTwice(nodes, c)
	if !twice || show(again) != show(left) || code != impl.OK || c1 != impl.OK || c2 != impl.OK {
		t.Errorf("%.300s, sanitized by %s, is %.300s, and then %.300s: %v, codes %d %d %d", brief(nodes), showConfig(c), brief(left), brief(again), twice, code, c1, c2)
	}
	checkPart(t, left, nodes, true)
	checkPart(t, nodes, left, len(listed(left)) == len(listed(nodes)))
	return left
}

// checkSafelyLeft is promise 13 of what is left of a tree; it tells whether the tree itself comes to mean harm.
func checkSafelyLeft(t *testing.T, nodes, left []impl.Node) bool {
	t.Helper()
	from := harmFromBy(nodes)
	for _, k := range []int{0, 1, 2, impl.MaxDepth} {
		checkSafeTimes(t, nodes, k, k < from, impl.OK)
		checkSafeTimes(t, left, k, true, impl.OK)
	}
	if harmFromBy(left) != never {
		t.Errorf("by the second reading what is left of %.300s comes to mean harm: %.300s", brief(nodes), brief(left))
	}
	return from < never
}

// padded has comments behind some nodes, so that the text of all has n bytes.
func padded(n int, ahead ...impl.Node) []impl.Node {
	nodes := slices.Clip(ahead)
	for n -= len(writtenBy(ahead)); n > 0; {
		here := min(n, len("<!---->")+impl.MaxWords)
		if more := n - here; more > 0 && more < len("<!---->") {
			here -= len("<!---->")
		}
		nodes = append(nodes, comment(long(here-len("<!---->"))))
		n -= here
	}
	return nodes
}
