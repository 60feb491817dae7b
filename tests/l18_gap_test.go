package tests

import (
	"testing"

	"loop.example/pinfold/impl"
)

// gapCase is a problem over variables x, y, z, u, v, w, a box, what its first relation leaves of it, and the gap that is told with it.
type gapCase struct{ lines, box, left, gap string }

func checkGapCases(t *testing.T, cases []gapCase) {
	t.Helper()
	for _, width := range bothWidths() {
		for _, c := range cases {
			got := checkRevise(t, width, graphWith(t, namesFor(c.box), c.lines), boxAs(t, width, c.box), 0)
			want := narrowed{boxAs(t, width, c.left), gapAs(t, width, c.gap), c.left != ""}
			if got.ok != want.ok || !sameBox(got.box, want.box) || got.gap != want.gap {
				t.Errorf("%d: %q over %s: %s, not %s", width, c.lines, c.box, got.text(width), want.text(width))
			}
		}
	}
}

// A factor that is a variable, as the first part and as the second one; where there is none, as one of the two parts is not there, or both have 0.
func TestGapsOfVariables(t *testing.T) {
	checkGapCases(t, []gapCase{
		{"x * y = 1", "-5..7 -1..1", "-5..7 -1..1", "0: -1..1"}, {"x * y = 1", "0..7 -1..1", "1..7 1/7..1", ""}, {"x * y = 1", "-5..0 -1..1", "-5..-1 -1..-1/5", ""}, {"x * y = 1", "-5..7 0..1", "1..7 1/7..1", ""}, {"x * y = 0", "-5..7 -1..1", "-5..7 -1..1", ""}, {"x * y >= 0", "-5..7 -1..1", "-5..7 -1..1", ""}, {"x * y >= 1", "-5..7 -1..1", "-5..7 -1..1", "0: -1..1"}, {"x * y <= -1", "-5..7 -1..1", "-5..7 -1..1", "0: -1..1"},
		{"x * y = 1", "-1/2..7 -1..1", "1..7 1/7..1", ""}, {"x * y = 1", "-1..7 -1..1", "-1..7 -1..1", "0: -1..1"}, {"x * y = 1", "-1\"..1 -1..1", "-1\"..1 -1..1", "0: -1..1"}, {"x * y = 1", "-1..1\" -1..1", "-1 -1", ""}, {"x * y = 3", "-7..9 -2..1/2", "-7..9 -2..1/2", "0: -3/2..6"},
		// The first part is no variable, or has no gap: the second one is looked at.
		{"2 * x = y", "-5..7 1..2", "1/2..1 1..2", ""}, {"-x * y = 1", "-5..7 -1..1", "-5..7 -1..1", "1: -1/7..1/5"}, {"x * -y = 1", "-5..7 -1..1", "-5..7 -1..1", "0: -1..1"}, {"-x * -y = 1", "-5..7 -1..1", "-5..7 -1..1", ""}, {"(x + z) * (y + z) = 1", "-5..7 -1..1 0", "-5..7 -1..1 0", ""}, {"(x + 0) * y = 1", "-5..7 -1..1", "-5..7 -1..1", "1: -1/5..1/7"},
		{"y * x = 1", "-5..7 -1..1", "-5..7 -1..1", "1: -1/5..1/7"},
		// Each part where only it has one: beside what has no 0 there is none, and what does not reach both parts has none.
		{"x * y = 1", "-inf..inf -1..1", "-inf..inf -1..1", "0: -1..1"}, {"x * y = 1", "-inf..inf -inf..inf", "-inf..inf -inf..inf", ""}, {"x * y = 1", "-5..7 -inf..inf", "-5..7 -inf..inf", "1: -1/5..1/7"}, {"x * y = 1.5", "-inf..5 0..6", "1/4..5 3/10..6", ""},
		// One node as both factors, and a square, which tells none.
		{"x * x = 4", "-5..7", "-5..7", "0: -4/5..4/7"}, {"x * x >= 4", "-1..7", "4/7..7", ""}, {"x^2 = 4", "-5..7", "-2..2", ""}, {"abs(x) = 4", "-5..7", "-4..4", ""}, {"1 / x >= y", "-5..7 1", "0..1 1", ""}, {"1 / x = y", "-5..7 -1..1", "-5..7 -1..1", ""}, {"x / y = z", "1 -5..7 -1..1", "1 -5..7 -1..1", ""},
	})
}

// What is found first is told, whatever there is behind it: of one product, and of two, the later one ahead of the earlier one.
func TestTheFirstGapIsFound(t *testing.T) {
	checkGapCases(t, []gapCase{
		{"max(x * y, u * z) <= -1", "-5..7 -1..1 -1..1 -3..3", "-5..7 -1..1 -1..1 -3..3", "3: -1..1"}, {"max(u * z, x * y) <= -1", "-5..7 -1..1 -1..1 -3..3", "-5..7 -1..1 -1..1 -3..3", "0: -1..1"}, {"max(z * u, y * x) <= -1", "-5..7 -1..1 -1..1 -3..3", "-5..7 -1..1 -1..1 -3..3", "1: -1/7..1/5"},
		{"max(x * y, -z * u) <= -1", "-5..7 -1..1 -1..1 -3..3", "-5..7 -1..1 -1..1 -3..3", "3: -1..1"}, {"max(x * y, -z * -u) <= -1", "-5..7 -1..1 -1..1 -3..3", "-5..7 -1..1 -1..1 -3..3", "0: -1..1"}, {"max(x * y, 0 * z) <= 0", "-5..7 -1..1 2", "-5..7 -1..1 2", ""}, {"max(x * y, z * 2) <= -1", "-5..7 -1..1 -9..3", "-5..7 -1..1 -9..-1/2", "0: -1..1"},
		{"x * y = u * z - 1", "-5..7 -1..1 1..2 -inf..-1", "-5..7 -1..1 1..2 -6..-1", "0: -2..2"},
		// A product of a product: the inner one has its gaps, too.
		{"x * (y * z) = 1", "-5..7 -1..1 -1..1", "-5..7 -1..1 -1..1", "0: -1..1"}, {"x * y * z = 1", "-5..7 -1..1 -1..1", "-5..7 -1..1 -1..1", "2: -1/7..1/7"},
	})
}

// A gap that is found, and that the box in the end does not have, is not told, and no later one in its place.
func TestGapsThatAreNotTold(t *testing.T) {
	checkGapCases(t, []gapCase{
		{"min(-x, x * y) >= 1", "-5..7 -1..1", "-5..-1 -1..1", ""}, {"min(x, x * y) >= 1", "-5..7 -1..1", "1..7 1/7..1", ""}, {"min(-x, y * x) >= 1", "-5..7 -1..1", "-5..-1 -1..1", "1: -1/5..1/7"},
		// It is still there, just.
		{"min(1 - x, x * y) >= 0.5", "-5..7 -1..1", "-5..1/2 -1..1", "0: -1/2..1/2"}, {"min(1 - x, x * y) >= 0.625", "-5..7 -1..1", "-5..3/8 -1..1", ""},
		// The gap's variable is left with one bound of the gap, or with both.
		{"x * y = 1", "-1..1 -1..1", "-1..1 -1..1", "0: -1..1"}, {"x * y = -2.5", "0..5 -1/2..inf", "0..5 -1/2", "0: 0..5"},
	})
}

// roundCase is a problem over variables x, y, z, u, v, w, a box, what all relations leave of it, and the gap that is told with it.
type roundCase struct{ lines, box, left, gap string }

// checkRoundCases wants of a check of all that is told of a box that it comes to what is left of it.
func checkRoundCases(t *testing.T, check func(t *testing.T, width int, g impl.Graph, b impl.Box) narrowed, cases []roundCase) {
	t.Helper()
	for _, width := range bothWidths() {
		for _, c := range cases {
			g := graphWith(t, namesFor(c.box), c.lines)
			b := boxAs(t, width, c.box)
			got := check(t, width, g, b)
			want := narrowed{boxAs(t, width, c.left), gapAs(t, width, c.gap), c.left != ""}
			if got.ok != want.ok || !sameBox(got.box, want.box) || got.gap != want.gap {
				t.Errorf("%d: %q over %s: %s, not %s", width, c.lines, c.box, got.text(width), want.text(width))
			}
		}
	}
}

// All relations, in order, each of what the one ahead left, once.
func TestRound(t *testing.T) {
	checkRoundCases(t, checkOver, []roundCase{
		{"x <= 3; x >= 2", "0..10", "2..3", ""}, {"x <= 3; x >= 2", "4..10", "", ""}, {"x <= 3; x >= 4", "0..10", "", ""}, {"x >= 2; x <= 1; x = 7", "0..10", "", ""}, {"x = x", "0..10", "0..10", ""},
		{"x <= y; y <= 3", "0..10 0..10", "0..10 0..3", ""}, {"y <= 3; x <= y", "0..10 0..10", "0..3 0..3", ""}, {"x <= y; y <= z; z <= 3", "0..10 0..10 0..10", "0..10 0..10 0..3", ""}, {"z <= 3; y <= z; x <= y", "0..10 0..10 0..10", "0..3 0..3 0..3", ""},
		// Each relation of a kind of its own.
		{"x + y <= 9; x - y >= 2; x * y = 6", "0..10 1..20", "3..6 1..2", ""}, {"x - y = 2; x >= 5; y <= 4", "0..10 1..20", "5..10 1..4", ""}, {"y >= 4; x - y = 2; x <= 7", "0..10 1..20", "6..7 4..8", ""},
		// A relation of one side twice, and one that is said twice, so that it narrows again.
		{"x - x >= 1; x - x >= 1", "0..10", "2..8", ""}, {"x - x >= 1; x - x >= 1; x - x >= 1", "0..10", "3..7", ""}, {"x + y = 3; x + y = 3", "0..10 1..20", "0..2 1..3", ""},
		// Spans that become empty: by the forward spans of a later relation, by the relation, and behind it.
		{"x <= 3; sqrt(x - 4) >= 0", "0..10", "", ""}, {"sqrt(x - 4) >= 0; x <= 3", "0..10", "", ""}, {"x <= 1.5; x - x = 1", "0..10", "", ""}, {"x - x = 1; x <= 0.5", "0..10", "", ""}, {"x = 3; sqrt(-1 - x^2) = 0", "0..10", "", ""},
	})
}

// The gap is the first that was found and that the box in the end still has.
func TestGapsOfRounds(t *testing.T) {
	checkRoundCases(t, checkOver, []roundCase{
		{"x * y = 1", "-5..7 -1..1", "-5..7 -1..1", "0: -1..1"}, {"x * y = 1; z * u = 2", "-5..7 -1..1 -3..3 -1..1", "-5..7 -1..1 -3..3 -1..1", "0: -1..1"}, {"z * u = 2; x * y = 1", "-5..7 -1..1 -3..3 -1..1", "-5..7 -1..1 -3..3 -1..1", "2: -2..2"},
		// The earlier one is gone in the end, as a relation between, behind, or its own takes it away.
		{"x * y = 1; x >= 1; z * u = 2", "-5..7 -1..1 -3..3 -1..1", "1..7 -1..1 -3..3 -1..1", "2: -2..2"}, {"x * y = 1; z * u = 2; x >= 1", "-5..7 -1..1 -3..3 -1..1", "1..7 -1..1 -3..3 -1..1", "2: -2..2"}, {"x * y = 1; z * u = 2; x >= 1; z <= 0", "-5..7 -1..1 -3..3 -1..1", "1..7 -1..1 -3..0 -1..1", ""}, {"min(-x, x * y) >= 1; z * u = 2", "-5..7 -1..1 -3..3 -1..1", "-5..-1 -1..1 -3..3 -1..1", "2: -2..2"},
		{"x * y = 1; x >= -1; z * u = 2", "-5..7 -1..1 -3..3 -1..1", "-1..7 -1..1 -3..3 -1..1", "0: -1..1"}, {"x * y = 1; x >= -0.5; z * u = 2", "-5..7 -1..1 -3..3 -1..1", "-1/2..7 -1..1 -3..3 -1..1", "2: -2..2"}, {"x <= 3; z * u = 2; x * y = 1", "-5..7 -1..1 -3..3 -1..1", "-5..3 -1..1 -3..3 -1..1", "2: -2..2"},
		// A relation finds one alone, also where that is gone: what else it had is not found, but what a later one finds is, of the same variable, too.
		{"x * y = 1; x >= 1", "-5..7 -1..1", "1..7 -1..1", ""}, {"x * y = 1; x <= 0; y * x = 1", "-5..7 -1..1", "-5..-1 -1..-1/5", ""}, {"min(-x, x * y) >= 1; y * z = 1", "-5..7 -1..1 -4..4", "-5..-1 -1..1 -4..4", "1: -1/4..1/4"}, {"x * y = 1; x * y >= 2", "-5..7 -1..1", "-5..7 -1..1", "0: -1..1"}, {"x * y >= 2; x * y = 1", "-5..7 -1..1", "-5..7 -1..1", "0: -2..2"},
		{"x * y = 2; x * z = 4", "-5..5 -1..1 -1..1", "-5..5 -1..1 -1..1", "0: -2..2"}, {"x * z = 4; x * y = 2", "-5..5 -1..1 -1..1", "-5..5 -1..1 -1..1", "0: -4..4"}, {"x * z = 4; x * y = 2; abs(x) <= 3.5", "-5..5 -1..1 -1..1", "-7/2..7/2 -1..1 -1..1", "0: -2..2"},
		// Nothing is left: no gap.
		{"x * y = 1; z >= 5", "-5..7 -1..1 0..1", "", ""}, {"x * y = 1; sqrt(z) = 1", "-5..7 -1..1 -2..-1", "", ""},
	})
}

// productsGraph is a graph of products, of variables more often than not, each held against a number.
func productsGraph(s *spread, vars int) impl.Graph {
	g := varsGraph(vars, vars)
	g.Rels = nil
	pad := slopePad{g.Nodes}
	for range 2 + s.next()%3 {
		parts := [2]int{}
		for at := range parts {
			parts[at] = int(s.next() % uint64(vars))
			if s.next()%4 == 0 {
				parts[at] = int(s.next() % uint64(len(pad.nodes)))
			}
			if s.next()%6 == 0 {
				parts[at] = pad.put(signNode("neg", parts[at], 0))
			}
		}
		at := pad.put(signNode("*", parts[0], parts[1]))
		g.Rels = append(g.Rels, impl.GraphRel{Kind: 1 + int(s.next()%3), Left: at, Right: pad.putNumber(pick(s, []string{"1", "2", "0.5", "3", "0", "0.1"}))})
		if s.next()%4 == 0 {
			g.Rels = append(g.Rels, impl.GraphRel{Kind: 1 + int(s.next()%2), Left: int(s.next() % uint64(vars)), Right: pad.putNumber(pick(s, []string{"0", "1", "2"}))})
		}
	}
	g.Nodes = pad.nodes
	return g
}

// Products by chance, over boxes that have 0 more often than not.
func TestGapsOfSomeGraphs(t *testing.T) {
	t.Parallel()
	s := spread{252}
	told, later := 0, 0
	for at := range 1200 {
		g := productsGraph(&s, 2+at%4)
		for _, width := range bothWidths() {
			b := someBoxOf(&s, width, g.Vars)
			for at := range b.Pairs {
				if s.next()%3 > 0 {
					b.Pairs[at] = impl.Pair{Lo: ordOf(width, -float64(1+s.next()%16)/2), Hi: ordOf(width, float64(1+s.next()%16)/2)}
				}
			}
			got := checkOver(t, width, g, b)
			_, found, _ := revisedBy(width, g, b, g.Rels...)
			if got.gap.Some {
				told++
			}
			if got.gap.Some && got.gap != found[0] {
				later++
			}
		}
	}
	if told < 400 || later < 20 {
		t.Errorf("only %d gaps, %d that are not the first found", told, later)
	}
}
