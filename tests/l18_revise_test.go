package tests

import (
	"testing"

	"loop.example/pinfold/impl"
)

// reviseCase is a problem over variables x, y, z, u, v, w, a box, and what its first relation leaves of it; nothing is told by nothing.
type reviseCase struct{ lines, box, left string }

func checkReviseCases(t *testing.T, cases []reviseCase) {
	t.Helper()
	for _, width := range bothWidths() {
		for _, c := range cases {
			got := checkRevise(t, width, graphWith(t, namesFor(c.box), c.lines), boxAs(t, width, c.box), 0)
			if want := boxAs(t, width, c.left); !sameBox(got.box, want) || got.ok != (c.left != "") {
				t.Errorf("%d: %q over %s: %s, not %s", width, c.lines, c.box, got.text(width), boxText(width, want))
			}
		}
	}
}

// Each kind of nodes, backward, and a variable and a number as a side themselves.
func TestReviseByEachKind(t *testing.T) {
	checkReviseCases(t, []reviseCase{
		{"x <= y", "0..10 -5..5", "0..5 0..5"}, {"x >= y", "0..10 -5..20", "0..10 -5..10"}, {"x = y", "0..10 -5..5", "0..5 0..5"}, {"x = 3", "0..10", "3"}, {"3 = x", "0..10", "3"}, {"x <= 3", "0..10", "0..3"}, {"x >= 3", "0..10", "3..10"}, {"3 <= x", "0..10", "3..10"}, {"x = 0.1", "0..10", "1/10"}, {"x >= 0.1", "0..10", "1/10..10"}, {"2 <= 3", "0..10", "0..10"}, {"2 >= 3", "0..10", ""},
		{"-x = 3", "-10..10", "-3"}, {"-x <= 3", "-10..10", "-3..10"}, {"-x >= y", "-10..10 2..20", "-10..-2 2..10"},
		{"x + y = 3", "0..10 1..20", "0..2 1..3"}, {"x + y <= 3", "0..10 1..20", "0..2 1..3"}, {"x + y >= 25", "0..10 1..20", "5..10 15..20"}, {"x + y = 25", "0..10 1..20", "5..10 15..20"}, {"x + 2 = y", "0..10 1..20", "0..10 2..12"}, {"x + y = 0.3", "0 0..1", "0 3/10"},
		{"x - y = 3", "0..10 1..20", "4..10 1..7"}, {"x - y <= -15", "0..10 1..20", "0..5 15..20"}, {"x - y >= 7", "0..10 1..20", "8..10 1..3"}, {"x - y = z", "0..10 1..20 5..6", "6..10 1..5 5..6"},
		{"x * y = 12", "1..10 2..20", "1..6 2..12"}, {"x * y <= 12", "1..10 2..20", "1..6 2..12"}, {"x * y >= 180", "1..10 2..20", "9..10 18..20"}, {"x * y = -12", "1..10 -20..20", "1..10 -12..-6/5"}, {"x * y = 0", "1..10 -20..20", "1..10 0"}, {"x * y = 0", "-1..10 -20..20", "-1..10 -20..20"}, {"x * y = 0", "0 -20..20", "0 -20..20"}, {"x * y = z", "-1..1 2..3 -100..100", "-1..1 2..3 -3..3"},
		{"x / y = 2", "1..10 2..20", "4..10 2..5"}, {"x / y <= 1", "5..10 2..20", "5..10 5..20"}, {"x / y = 0", "-5..10 2..20", "0 2..20"}, {"x / y = -2", "1..10 -20..20", "1..10 -5..-1/2"}, {"x / y = 1", "0 0..20", ""}, {"x / y = 0", "0..1 0..20", "0 0..20"}, {"x / 0.5 = y", "1..10 2..4", "1..2 2..4"},
		{"x^2 = 4", "0..10", "2"}, {"x^2 = 4", "-10..10", "-2..2"}, {"x^2 = 4", "-10..-1", "-2"}, {"x^2 <= 4", "-10..1", "-2..1"}, {"x^2 >= 4", "-1..10", "2..10"}, {"x^2 >= 4", "-10..1", "-10..-2"}, {"x^3 = -27", "-10..10", "-3"}, {"x^3 <= 8", "-10..10", "-10..2"}, {"x^0 = 1", "-10..10", "-10..10"}, {"x^0 <= y", "-10..10 -10..10", "-10..10 1..10"}, {"x^1 = 4", "-10..10", "4"}, {"x^8 = 256", "0..10", "2"}, {"x^2 <= -1", "-10..10", ""},
		{"sqrt(x) = 3", "-5..100", "9"}, {"sqrt(x) <= 3", "-5..100", "0..9"}, {"sqrt(x) >= 3", "-5..100", "9..100"}, {"sqrt(x) >= -3", "-5..100", "0..100"}, {"sqrt(x) <= -3", "-5..100", ""}, {"sqrt(x) = 0", "-5..100", "0"},
		{"abs(x) = 3", "-5..100", "-3..3"}, {"abs(x) <= 3", "-5..100", "-3..3"}, {"abs(x) >= 6", "-5..100", "6..100"}, {"abs(x) >= 4", "-5..3", "-5..-4"}, {"abs(x) = -1", "-5..100", ""},
		{"min(x, y) >= 3", "0..10 1..20", "3..10 3..20"}, {"min(x, y) <= 3", "0..10 1..20", "0..10 1..20"}, {"min(x, y) <= 3", "0..10 5..20", "0..3 5..20"}, {"min(x, y) <= 3", "5..10 0..20", "5..10 0..3"}, {"min(x, y) = 3", "0..10 5..20", "3 5..20"},
		{"max(x, y) <= 3", "0..10 1..20", "0..3 1..3"}, {"max(x, y) >= 15", "0..10 1..20", "0..10 15..20"}, {"max(x, y) = 3", "0..2 1..20", "0..2 3"}, {"max(x, y) = 15", "0..10 1..20", "0..10 15"}, {"max(x, y) >= 3", "0..10 1..20", "0..10 1..20"},
	})
}

// Nodes over nodes: each is narrowed by all that it is a part of, ahead of its own parts.
func TestReviseByNodesOverNodes(t *testing.T) {
	checkReviseCases(t, []reviseCase{
		{"x^2 + y^2 = 25", "3..10 0..10", "3..5 0..4"}, {"(x + y)^2 = 16", "1..10 -2..10", "1..6 -2..3"}, {"sqrt(x - y) = z", "0..10 1..20 2..3", "5..10 1..6 2..3"}, {"-(x - y) * 2 = -6", "0..10 1..20", "4..10 1..7"}, {"1 / (x + 1) >= 0.5", "0..10", "0..1"}, {"abs(x - 3) <= 2", "-10..10", "1..5"}, {"x + y + z <= 3", "0..10 1..10 1..10", "0..1 1..2 1..2"},
		// A node that two others are made of.
		{"min(x + y, 7 - (x + y)) >= 3", "0..10 1..2", "1..3 1..2"}, {"max(x + y, 7 - (x + y)) <= 4", "0..10 1..2", "1..3 1..2"}, {"min(x^2, 20 - x^2) >= 4", "0..10", "2..4"}, {"min(sqrt(x), 5 - sqrt(x)) >= 2", "0..100", "4..9"}, {"min(x - y, min(x + y, 7 - (x + y))) >= 3", "0..10 -1..2", "2..5 -1..2"},
		// So a variable that two are made of, of which the later one narrows it first.
		{"min(x, 7 - x) >= 3", "0..10", "3..4"}, {"min(-x, 7 + x) >= 3", "-10..10", "-4..-3"}, {"x + x^2 <= 6", "0..10", "0..2.4494897427831780981972840747058913919659474806566701284326925672509603774573150265398594331046402348185946012266141891248588654598377573416257839512372785528289127475276765712476301052709117702234813106789866908524433571030887868838"}, {"min(x, y) - max(x, y) >= 0", "0..10 5..20", "5..10 5..10"},
		// Both sides made of one node, and one side a part of the other one.
		{"x + y = 2 * (x + y) - 3", "0..10 1..20", "0..10 1..16.5"}, {"x^2 <= x^2 + y", "1..10 -3..3", "1..10 -3..3"}, {"x <= x - y", "0..10 0..20", "0..10 0..10"}, {"x + 1 = x", "0..10", "1..9"}, {"x = x + 1", "0..10", "1..9"}, {"x >= -x", "-5..3", "-3..3"},
	})
}

// A node that is both parts of one is narrowed twice, the second time as what it is by then; it may have nothing left in between.
func TestReviseByOneNodeTwice(t *testing.T) {
	checkReviseCases(t, []reviseCase{
		{"x + x = 3", "0..10", "0..3"}, {"x + x <= 3", "1..10", "1..2"}, {"x + x = 4", "1..10", "1..3"}, {"x - x >= 1", "0..10", "1..9"}, {"x - x <= -1", "0..10", "1..9"}, {"x - x = 1", "0..1.5", ""}, {"x - x = 0", "1..2", "1..2"}, {"x - x = 1", "0..2", "1"},
		{"x * x = 4", "1..10", "1..4"}, {"x * x = 9", "2..10", "2..4.5"}, {"x * x >= 50", "-1..10", "5..10"}, {"x * x = 0", "-1..10", "-1..10"}, {"x * x <= -4", "-1..10", "-1..10"}, {"x * x <= -4", "1..10", ""},
		{"x / x >= 2", "1..10", "2..5"}, {"x / x <= 0.5", "1..10", "2..5"}, {"x / x = 1", "0..10", "0..10"}, {"x / x = 0", "1..10", ""}, {"x / x = 0", "0..10", ""},
		{"min(x, x) >= 3", "0..10", "3..10"}, {"max(x, x) >= 3", "0..10", "0..10"}, {"max(x, x) <= 3", "0..10", "0..3"}, {"min(x, x) = 3", "0..10", "3..10"},
		{"x^2 - x^2 >= 1", "0..2", "1..1.7320508075688772935274463415058723669428052538103806280558069794519330169088000370811461867572485757"},
	})
}

// The first part is narrowed first, and the second one by what is left of that: with bounds that are infinite it shows.
func TestReviseNarrowsTheFirstPartFirst(t *testing.T) {
	checkReviseCases(t, []reviseCase{
		{"x * y = 1.5", "-inf..5 0..6", "1/4..5 3/10..6"}, {"y * x = 1.5", "-inf..5 0..6", "1/4..5 0..6"}, {"x * y = -2.5", "0..5 -1/2..inf", "0..5 -1/2"}, {"y * x = -2.5", "0..5 -1/2..inf", "5 -1/2"},
		{"x * y = -6", "-4..inf 0..6", "-4..-1 3/2..6"}, {"y * x = -6", "-4..inf 0..6", "-4..-1 0..6"},
	})
}

// One node on both sides: both meet, which takes nothing away.
func TestReviseByOneNodeOnBothSides(t *testing.T) {
	checkReviseCases(t, []reviseCase{
		{"x = x", "-5..100", "-5..100"}, {"x <= x", "-5..100", "-5..100"}, {"x >= x", "-inf..inf", "-inf..inf"}, {"sqrt(x) = sqrt(x)", "-5..100", "0..100"}, {"sqrt(x) <= sqrt(x)", "-5..-1", ""}, {"x + y = x + y", "0..1 2..3", "0..1 2..3"}, {"1 / x >= 1 / x", "0..2", "0..2"}, {"3 = 3", "0..2", "0..2"},
	})
}

// Nodes that neither side is made of do not narrow, but must not be empty.
func TestReviseByNodesOfOthers(t *testing.T) {
	checkReviseCases(t, []reviseCase{
		{"x + y <= 3; sqrt(x) >= 0", "-5..10 0..10", "-5..3 0..8"}, {"sqrt(x) >= 0; x + y <= 3", "-5..10 0..10", "0..10 0..10"}, {"y <= 3; x = 2", "-5..10 0..10", "-5..10 0..3"}, {"x = 2; y <= 3", "-5..10 0..10", "2 0..10"}, {"y <= 3; x = 20", "-5..10 0..10", "-5..10 0..3"},
		{"y <= 3; sqrt(x) >= 0", "-5..-1 0..10", ""}, {"y <= 3; sqrt(x) >= 0", "-5..0 0..10", "-5..0 0..3"}, {"y <= 3; 1 / x = 2", "0 0..10", ""}, {"sqrt(x) >= 0; y = 3 / (x - x)", "4 0..10", ""},
		// What stands behind both sides, made of one of them: it is not gone back through.
		{"x + y <= 30; sqrt(x + y) <= 1", "0..10 0..10", "0..10 0..10"}, {"x + y <= 30; -(x + y) >= -4", "0..10 0..10", "0..10 0..10"}, {"x <= 8; sqrt(x - 3) = y", "0..10 0..10", "0..8 0..10"},
	})
	for _, width := range bothWidths() {
		g := graphWith(t, "x y", "y <= 3")
		for _, node := range []impl.GraphNode{{Kind: impl.TermRoot}, {Kind: impl.TermDiv, A: 1}, {Kind: impl.TermMul, A: 0, B: 1}, {Kind: impl.TermAbs}} {
			for _, box := range []string{"-5..10 0..10", "-5..-1 0..10", "0 0..10"} {
				checkOver(t, width, withNodes(g, node), boxAs(t, width, box))
			}
		}
		if got := checkRevise(t, width, withNodes(g, impl.GraphNode{Kind: impl.TermRoot}), boxAs(t, width, "-5..-1 0..10"), 0); got.ok {
			t.Errorf("%d: an empty span at a node of no relation: %s", width, got.text(width))
		}
		if got := checkRevise(t, width, withNodes(g, impl.GraphNode{Kind: impl.TermRoot}), boxAs(t, width, "-5..0 0..10"), 0); !sameBox(got.box, boxAs(t, width, "-5..0 0..3")) {
			t.Errorf("%d: narrowed by a node of no relation: %s", width, got.text(width))
		}
	}
}

// Spans that become empty: ahead of the relation, by it, and behind it, of variables and of others.
func TestReviseLeavesNothing(t *testing.T) {
	checkReviseCases(t, []reviseCase{
		{"sqrt(x) = 1", "-2..-1", ""}, {"x / (y - y) = 1", "1..2 1", ""}, {"x = x; sqrt(x) = 1", "-2..-1", ""},
		{"x <= 1", "2..3", ""}, {"x >= y", "1..2 3..4", ""}, {"x = y", "1..2 3..4", ""}, {"x + y = 100", "1..2 3..4", ""}, {"x^2 = -1", "-1..1", ""}, {"x = y", "1..2 2'..4", ""}, {"x = y", "1..2 2..4", "2 2"},
		// Of a variable, as the first part and as the second one; of one node that is no variable; behind several that something is left of.
		{"x - x = 1", "0..3/2", ""}, {"x - x = -1", "0..3/2", ""}, {"x + -x = 1", "0..3/2", ""}, {"-x + x = 1", "0..3/2", ""}, {"-x - -x = 1", "0..3/2", ""}, {"x^3 - x^3 = 1", "0..1.125", ""}, {"x^2 * y - x^2 * y = 5", "1..2 1..2", ""}, {"x^2 * y - x^2 * y = 4", "1..2 1..2", ""}, {"x^2 + (x + 3) = 3", "1/2..1", ""}, {"min(x, 5 - x) >= 3", "0..10", ""}, {"max(x, 5 - x) <= 2", "0..10", ""},
	})
}

// Bounds that are infinite.
func TestReviseOfInfiniteBounds(t *testing.T) {
	checkReviseCases(t, []reviseCase{
		{"x + y = 3", "-inf..inf 1..2", "1..2 1..2"}, {"x + y = 3", "-inf..inf -inf..inf", "-inf..inf -inf..inf"}, {"x + y <= 3", "0..inf 0..inf", "0..3 0..3"}, {"x - y = 3", "0..inf -inf..2", "0..5 -3..2"}, {"x * y = 1", "1..inf 1..inf", "1 1"}, {"x * y = 1", "0..inf 2..inf", "0..1/2 2..inf"}, {"x * y <= 1", "2..inf -inf..inf", "2..inf -inf..1/2"},
		{"x^2 = 4", "-inf..inf", "-2..2"}, {"x^2 >= 4", "0..inf", "2..inf"}, {"sqrt(x) <= 3", "-inf..inf", "0..9"}, {"abs(x) <= 3", "-inf..inf", "-3..3"}, {"abs(x) >= 3", "-inf..inf", "-inf..inf"}, {"abs(x) >= 3", "0..inf", "3..inf"}, {"min(x, y) >= 3", "-inf..inf -inf..4", "3..inf 3..4"}, {"max(x, y) <= 3", "-inf..inf 2..inf", "-inf..3 2..3"}, {"1 / x >= 2", "0..inf", "0..1/2"}, {"1 / x = 0", "1..inf", ""}, {"y / x = 0", "1..inf -1..1", "1..inf 0"}, {"x <= y", "-inf..inf -inf..7", "-inf..7 -inf..7"}, {"-x >= 3", "-inf..inf", "-inf..-3"},
		{"x = 1e400", "0..inf", "1e400"}, {"x >= 1e400", "0..inf", "1e400..inf"}, {"x <= 1e-400", "0..inf", "0..1e-400"},
	})
}

// Relations, graphs and boxes by chance.
func TestReviseOfSomeGraphs(t *testing.T) {
	t.Parallel()
	s := spread{251}
	left, less := 0, 0
	for at := range 2500 {
		g := onlyKinds(&s, 1+at%4, []int{1, 2, 4, 8, 14}[at%5], allKinds()...)
		for _, width := range bothWidths() {
			b := someBoxOf(&s, width, g.Vars)
			if at%3 == 0 {
				b = boxAround(&s, width, somePointOf(&s, width, b))
			}
			for rel := range g.Rels {
				got := checkRevise(t, width, g, b, rel)
				if got.ok {
					left++
				}
				if got.ok && !sameBox(got.box, b) {
					less++
				}
			}
		}
	}
	if left < 4000 || less < 1500 {
		t.Errorf("only %d boxes left, %d less", left, less)
	}
}
