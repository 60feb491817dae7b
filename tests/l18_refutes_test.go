package tests

import (
	"slices"
	"testing"

	"loop.example/pinfold/impl"
)

// withNodes is a graph with nodes behind its own ones, of which no relation is made.
func withNodes(g impl.Graph, nodes ...impl.GraphNode) impl.Graph {
	out := copiedGraph(g)
	out.Nodes = append(out.Nodes, nodes...)
	return out
}

// refutesCase is a problem over variables x, y, z, a box, and what HullRefutes tells.
type refutesCase struct {
	lines, box string
	want       int
}

func TestRefutes(t *testing.T) {
	for _, width := range bothWidths() {
		for _, c := range []refutesCase{
			{"x = 5; sqrt(x) <= 9", "0..1", 1}, {"x = 5; sqrt(x) <= 9", "-2..-1", -1}, {"x = 5; sqrt(x) <= 9", "0..9", 0}, {"x = 5; sqrt(x) <= 9", "-2..9", 0}, {"x = 5; sqrt(x) <= 9", "5..82", 0}, {"x = 5; sqrt(x) <= 9", "100", 1}, {"x >= 5; sqrt(x) <= 9", "100", 2},
			// Each kind of relation, at its edge.
			{"x <= y", "1..2 0..1", 0}, {"x <= y", "1'..2 0..1", 1}, {"x <= y", "1..2 0..1\"", 1}, {"x >= y", "0..1 1..2", 0}, {"x >= y", "0..1 1'..2", 1}, {"x >= y", "0..1\" 1..2", 1},
			{"x = y", "0..1 1..2", 0}, {"x = y", "1..2 0..1", 0}, {"x = y", "0..1 1'..2", 1}, {"x = y", "1'..2 0..1", 1}, {"x = y", "1 1", 0}, {"x <= y", "1 1", 0}, {"x = x", "0..1", 0}, {"x <= y", "-inf..inf 3", 0}, {"x <= y", "3 -inf..2", 1},
			// The first relation that is refuted, wherever it stands, and whether others behind it are.
			{"x <= 3; x >= 5; x = 9", "4", 1}, {"x <= 3; x >= 5; x = 9", "0..4", 2}, {"x <= 3; x >= 5; x = 9", "0..6", 3}, {"x <= 3; x >= 5; x = 9", "0..10", 0}, {"x = 9; x >= 5; x <= 3", "4", 1}, {"x <= 3; x = 9; x >= 5", "0..6", 2},
			// An empty span is told ahead of all relations, those that are refuted too.
			{"x = 9; sqrt(x) <= 3", "-2..-1", -1}, {"sqrt(x) <= 3; x = 9", "-2..-1", -1}, {"x <= 5; 1 / y = x", "9 0", -1}, {"y = 3; x / (y - y) = 1", "2 0", -1}, {"sqrt(-x) = -1; sqrt(x) = 1", "0", 1}, {"sqrt(-x) = -1; sqrt(x) = 1", "1", -1},
			{"sqrt(x) <= x; x = x", "-2..-1", -1}, {"-sqrt(x) = 0", "-2..-1", -1},
		} {
			g := graphWith(t, namesFor(c.box), c.lines)
			b := boxAs(t, width, c.box)
			checkOver(t, width, g, b)
			if got := impl.HullRefutes(width, g, b); got != c.want {
				t.Errorf("%d: HullRefutes of %q over %s: %d, not %d", width, c.lines, c.box, got, c.want)
			}
		}
	}
}

// A span that is empty at a node that no relation is made of shows as much, ahead of a relation that is refuted, too.
func TestRefutesByNodesOfNoRelation(t *testing.T) {
	for _, width := range bothWidths() {
		g := graphWith(t, "x", "x <= 3")
		for _, c := range []struct {
			node impl.GraphNode
			box  string
			want int
		}{
			{impl.GraphNode{Kind: impl.TermRoot}, "-2..-1", -1}, {impl.GraphNode{Kind: impl.TermRoot}, "-2..0", 0}, {impl.GraphNode{Kind: impl.TermRoot}, "4..5", 1},
			{impl.GraphNode{Kind: impl.TermDiv, A: 1}, "0", -1}, {impl.GraphNode{Kind: impl.TermDiv, A: 1}, "0..1", 0}, {impl.GraphNode{Kind: impl.TermDiv, A: 1}, "4", 1},
		} {
			more := withNodes(g, c.node)
			checkOver(t, width, more, boxAs(t, width, c.box))
			if got := impl.HullRefutes(width, more, boxAs(t, width, c.box)); got != c.want {
				t.Errorf("%d: %v over %s: %d, not %d", width, c.node, c.box, got, c.want)
			}
		}
		more := withNodes(g, impl.GraphNode{Kind: impl.TermNeg}, impl.GraphNode{Kind: impl.TermRoot, A: 2})
		if got := impl.HullRefutes(width, more, boxAs(t, width, "4..5")); got != -1 {
			t.Errorf("%d: an empty span beside a relation that is refuted: %d", width, got)
		}
	}
}

// sureCase is a problem over variables x, y, z, a box, and what HullSure tells.
type sureCase struct {
	lines, box string
	want       bool
}

func checkSureCases(t *testing.T, cases []sureCase) {
	t.Helper()
	for _, width := range bothWidths() {
		for _, c := range cases {
			g := graphWith(t, namesFor(c.box), c.lines)
			b := boxAs(t, width, c.box)
			checkOver(t, width, g, b)
			if got := impl.HullSure(width, g, b); got != c.want {
				t.Errorf("%d: HullSure of %q over %s: %v", width, c.lines, c.box, got)
			}
		}
	}
}

// Relations, each of which must be sure: those that are not, and those that do not hold at all.
func TestSureOfRelations(t *testing.T) {
	checkSureCases(t, []sureCase{
		{"x >= 1", "1..2", true}, {"x >= 1", "1\"..2", false}, {"x >= 1", "0..2", false}, {"x >= 1", "0..1/2", false}, {"x <= 1", "0..1", true}, {"x <= 1", "0..1'", false}, {"x <= 1", "2..3", false}, {"x = 2", "2", true}, {"x = 2", "2..2'", false}, {"x = 2", "3", false}, {"x = y", "2 2", true}, {"x = y", "1..2 1..2", false},
		{"x = x", "1..2", false}, {"x <= x", "1..2", false}, {"x = x", "1", true}, {"x >= 1", "1..inf", true}, {"x <= 1", "-inf..1", true}, {"x^2 >= 0", "-inf..inf", true}, {"x * x >= 0", "-1..1", false},
		// One of several, in each place.
		{"x >= 1; y >= 1", "1..2 1..2", true}, {"x >= 1; y >= 1", "0..2 1..2", false}, {"x >= 1; y >= 1", "1..2 0..2", false}, {"x >= 1; y >= 1", "1..2 0", false}, {"x >= 1; y >= 1", "0 1..2", false}, {"x >= 1; y >= 1; x <= y", "1..2 3..4", true}, {"x >= 1; y >= 1; x <= y", "1..3 2..4", false},
		{"x >= 1; x <= 2; x = x", "1..2", false}, {"x >= 1; x <= 2; x = x", "3/2", true},
	})
}

// Quotients: a second part whose span has 0, at each of its bounds and within, a first one that may have it.
func TestSureOfQuotients(t *testing.T) {
	checkSureCases(t, []sureCase{
		{"1 / x >= 0", "1..2", true}, {"1 / x >= 0", "0..2", false}, {"1 / x >= 0", "0'..2", true}, {"1 / x <= 0", "-2..0", false}, {"1 / x <= 0", "-2..0\"", true}, {"x + 1 / x <= x + 100000", "-1..1", false}, {"0 / x >= 0", "-1..1", false}, {"0 / x >= 0", "0..1", false}, {"0 / x >= 0", "1..inf", true}, {"0 / x >= 0", "-inf..-1", true}, {"0 / x >= 0", "0", false},
		{"x / 3 >= 0", "0..2", true}, {"x / 3 >= 0", "0", true}, {"x / y >= 0", "0..2 1..2", true}, {"x / y >= 0", "0..2 0..2", false}, {"x / x >= 0", "1..2", true}, {"x / x >= 0", "0..1", false}, {"1 / (x - y) <= 9", "1 1..2", false}, {"1 / (1 / x) >= 0", "1..2", true}, {"1 / (1 / x) >= 0", "1..inf", false},
		{"1 / x^2 >= 0", "-1..1", false}, {"1 / x^2 >= 0", "1..2", true}, {"1 / x^0 >= 0", "-1..1", true},
		// The relation itself holds, and the quotient is only a part of what stands there.
		{"abs(min(0, 1 / x)) >= 0", "1..2", true}, {"abs(min(0, 1 / x)) >= 0", "-1..1", false}, {"(1 / x)^0 = 1", "1..2", true}, {"(1 / x)^0 = 1", "0..2", false},
	})
}

// Roots: a part whose span's Lo is below 0.
func TestSureOfRoots(t *testing.T) {
	checkSureCases(t, []sureCase{
		{"sqrt(x) >= 0", "0..2", true}, {"sqrt(x) >= 0", "0\"..2", false}, {"sqrt(x) >= 0", "-1..2", false}, {"sqrt(x) >= 0", "0", true}, {"sqrt(x) >= 0", "-1..0", false}, {"sqrt(x) >= 0", "-inf..inf", false}, {"sqrt(x) >= 0", "0..inf", true}, {"sqrt(x) >= 0", "-2..-1", false},
		{"sqrt(-x) >= 0", "-2..0", true}, {"sqrt(-x) >= 0", "-2..0'", false}, {"sqrt(x^2) >= 0", "-1..1", true}, {"sqrt(x * x) >= 0", "-1..1", false}, {"sqrt(sqrt(x)) >= 0", "0..2", true}, {"sqrt(x)^0 = 1", "0..2", true}, {"sqrt(x)^0 = 1", "-1..2", false}, {"sqrt(x - y) >= 0", "1..2 0..1", true}, {"sqrt(x - y) >= 0", "1..2 0..1'", false},
	})
}

// What might fail at a node that no relation is made of counts, too, and an empty span there.
func TestSureByNodesOfNoRelation(t *testing.T) {
	g := graphWith(t, "x y", "x >= 1")
	root, quotient := impl.GraphNode{Kind: impl.TermRoot, A: 1}, impl.GraphNode{Kind: impl.TermDiv, A: 0, B: 1}
	minus := impl.GraphNode{Kind: impl.TermNeg, A: 1}
	for _, width := range bothWidths() {
		for _, c := range []struct {
			nodes []impl.GraphNode
			box   string
			want  bool
		}{
			{nil, "1..2 -1..1", true}, {[]impl.GraphNode{root}, "1..2 0..1", true}, {[]impl.GraphNode{root}, "1..2 -1..1", false}, {[]impl.GraphNode{root}, "1..2 -2..-1", false}, {[]impl.GraphNode{quotient}, "1..2 1..2", true}, {[]impl.GraphNode{quotient}, "1..2 -1..1", false}, {[]impl.GraphNode{quotient}, "1..2 0", false},
			{[]impl.GraphNode{minus}, "1..2 -1..1", true}, {[]impl.GraphNode{root, quotient}, "1..2 1..2", true}, {[]impl.GraphNode{root, quotient}, "1..2 0..2", false},
		} {
			more := withNodes(g, c.nodes...)
			checkOver(t, width, more, boxAs(t, width, c.box))
			if got := impl.HullSure(width, more, boxAs(t, width, c.box)); got != c.want {
				t.Errorf("%d: %v over %s: %v", width, c.nodes, c.box, got)
			}
		}
	}
}

// Of what is divided, and of other kinds, spans may have what they like.
func TestSureOfOtherKinds(t *testing.T) {
	checkSureCases(t, []sureCase{
		{"abs(x) >= 0", "-1..1", true}, {"-x <= 1", "-1..1", true}, {"x * y <= 2", "-1..1 -2..2", true}, {"x - y <= 3", "-1..1 -2..2", true}, {"min(x, y) <= 1", "-1..1 -2..2", true}, {"max(x, y) >= -1", "-1..1 -2..2", true}, {"x^3 <= 1", "-1..1", true}, {"x^0 = 1", "-1..1", true}, {"0.5 <= x", "1/2..1", true}, {"0.1 <= x", "0.1..1", false}, {"0.1 <= x", "0.1'..1", true}, {"0.1 = 0.1", "3", false}, {"0.1 <= 0.1", "3", false}, {"0.5 = 0.5", "3", true},
	})
}

// Graphs and boxes by chance, small boxes around a point more often.
func TestSureAndRefutesOfSomeGraphs(t *testing.T) {
	t.Parallel()
	s := spread{250}
	sure, codes := map[bool]int{}, map[int]int{}
	for at := range 2500 {
		g := onlyKinds(&s, 1+at%3, []int{1, 2, 4, 8}[at%4], allKinds()...)
		for _, width := range bothWidths() {
			b := someBoxOf(&s, width, g.Vars)
			if at%3 > 0 {
				b = boxAround(&s, width, somePointOf(&s, width, b))
			}
			checkForward(t, width, g, b)
			sure[impl.HullSure(width, g, b)]++
			codes[impl.HullRefutes(width, g, b)]++
		}
	}
	if sure[true] < 100 || slices.Min([]int{codes[-1], codes[1], codes[2]}) < 50 {
		t.Errorf("only so many of each: %v, %v", sure, codes)
	}
}
