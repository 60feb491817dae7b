package tests

import (
	"testing"

	"loop.example/pinfold/impl"
)

// fitsCase is a problem over variables x, y, z, u, v, w, a box, and whether slopes of its first relation fit.
type fitsCase struct {
	lines, box string
	want       bool
}

func checkFitsCases(t *testing.T, width int, cases []fitsCase) {
	t.Helper()
	for _, c := range cases {
		g := graphWith(t, namesFor(c.box), c.lines)
		b := boxAs(t, width, c.box)
		if got := checkFits(t, width, g, b, 0); got != c.want {
			t.Errorf("%d: NewtonFits of %q over %s: %v", width, c.lines, c.box, got)
		}
		checkBySlopes(t, width, g, b)
	}
}

// Relations that have slopes, over boxes of all sorts, and others that have none.
func TestFitsWhereThereAreSlopes(t *testing.T) {
	for _, width := range bothWidths() {
		checkFitsCases(t, width, []fitsCase{
			{"x = 1", "0..1", true}, {"x <= 1", "4..5", true}, {"x >= 1", "1", true}, {"2 = 3", "0..1", true}, {"x = x", "-1..1", true}, {"x * y = 1", "-inf..inf -inf..inf", true}, {"-x + y - x^3 <= y^0 * 2.5", "-1..1 0", true}, {"x^2 >= y^8", "-inf..0 0..inf", true},
			{"abs(x) = 1", "1..2", false}, {"1 = abs(x)", "1..2", false}, {"min(x, y) = x", "1..2 5..6", false}, {"x >= max(x, y)", "1..2 5..6", false}, {"(x + abs(y))^2 = 1", "1..2 1..2", false}, {"1 / (2 - max(x, 1) * 0) <= 1", "1..2", false}, {"sqrt(min(x, 1)) = 1", "1..2", false}, {"abs(x) = abs(x)", "1..2", false}, {"abs(2) = x", "1..2", false}, {"0 * max(x, 2) = x", "1..2", false},
			// Sharp ones of other relations do not count.
			{"x = 1; abs(x) = 1", "1..2", true}, {"abs(x) = 1; x = 1", "1..2", false}, {"x + y = 1; max(x + y, 1) = 1", "1..2 1..2", true}, {"max(x + y, 1) = 1; x + y = 1", "1..2 1..2", false},
		})
	}
}

// Quotients and roots of the difference, at the edges of where they fit.
func TestFitsByQuotientsAndRoots(t *testing.T) {
	for _, width := range bothWidths() {
		checkFitsCases(t, width, []fitsCase{
			{"1 / x = 1", "1..2", true}, {"1 / x = 1", "0'..1", true}, {"1 / x = 1", "0..1", false}, {"1 / x = 1", "-1..0", false}, {"1 / x = 1", "-1..0\"", true}, {"1 / x = 1", "-1..1", false}, {"1 / x = 1", "0", false}, {"1 / x = 1", "0\"..0'", false}, {"1 / x = 1", "2..inf", true}, {"1 / x = 1", "-inf..inf", false}, {"1 = 1 / x", "0..1", false}, {"1 = 1 / x", "0'..1", true},
			// What is divided may have 0.
			{"x / y = 1", "-1..1 1..2", true}, {"x / y = 1", "0 1..2", true}, {"x / y = 1", "1..2 -1..1", false}, {"0 / x = 1", "-1..1", false}, {"x / 0 = 1", "1..2", false}, {"x / 2 = 1", "-1..1", true},
			{"1 / (x - y) = 1", "1..2 2..3", false}, {"1 / (x - y) = 1", "1..2 2'..3", true}, {"1 / (x - x) = 1", "1..2", false}, {"1 / (2 / x) = 1", "1..2", true}, {"1 / (1 / x) = 1", "-1..1", false}, {"3 - 2 * (1 / x)^2 <= 1", "0..1", false}, {"y = 1 / x", "0..1 1..2", false}, {"1 / y = 1 / x", "1..2 0..1", false}, {"1 / y = 1 / x", "0..1 1..2", false}, {"1 / y = 1 / x", "1..2 1..2", true},
			{"sqrt(x) = 1", "1..2", true}, {"sqrt(x) = 1", "0'..1", true}, {"sqrt(x) = 1", "0..1", false}, {"sqrt(x) = 1", "0\"..1", false}, {"sqrt(x) = 1", "-1..1", false}, {"sqrt(x) = 1", "0", false}, {"sqrt(x) = 1", "0'..inf", true}, {"sqrt(x) = 1", "-inf..inf", false}, {"1 >= sqrt(x)", "0..1", false}, {"1 >= sqrt(x)", "0'..1", true},
			{"sqrt(x - 1) = 1", "1..2", false}, {"sqrt(x - 1) = 1", "1'..2", true}, {"sqrt(2) = x", "-1..1", true}, {"sqrt(0) = x", "1..2", false}, {"sqrt(x^2) = 1", "-1..1", false}, {"sqrt(x^2 + 1) = 1", "-1..1", true}, {"y + sqrt(sqrt(x)) = 1", "1..2 -1..1", true}, {"y + sqrt(sqrt(x)) = 1", "0..2 -1..1", false}, {"0 * sqrt(x) = 1", "0..2", false}, {"sqrt(x)^0 = 1", "0..2", false}, {"sqrt(x) = sqrt(x)", "0..2", false},
			// Spans that are empty.
			{"sqrt(x) = 1", "-2..-1", false}, {"sqrt(x) + y = 1", "-2..-1 1..2", false}, {"y = 2 * -sqrt(x)^2", "-2..-1 1..2", false}, {"x / (y - y) = 1", "1..2 0", false}, {"sqrt(-1) = x", "0..1", false},
		})
	}
}

// Where a number is too small for a width, what is rounded counts.
func TestFitsByWhatIsRounded(t *testing.T) {
	checkFitsCases(t, 32, []fitsCase{
		{"1 / x^2 = 1", "1e-30..1", false}, {"1 / x^2 = 1", "1e-20..1", true}, {"sqrt(x^2) = 1", "1e-30..1", false}, {"sqrt(1e-60) = x", "0..1", false}, {"sqrt(1e-40) = x", "0..1", true}, {"1 / 1e-60 = x", "0..1", false}, {"1 / x = 1", "1e-60..1", false}, {"sqrt(x * y) = 1", "1e-30..1 1e-30..1", false},
	})
	checkFitsCases(t, 64, []fitsCase{
		{"1 / x^2 = 1", "1e-200..1", false}, {"1 / x^2 = 1", "1e-30..1", true}, {"sqrt(x^2) = 1", "1e-200..1", false}, {"sqrt(1e-60) = x", "0..1", true}, {"sqrt(1e-400) = x", "0..1", false}, {"1 / 1e-400 = x", "0..1", false}, {"1 / x = 1", "1e-60..1", true}, {"sqrt(x * y) = 1", "1e-200..1 1e-200..1", false},
	})
}

// Nodes that the difference is not made of do not count: those of other relations, of none, and of the slopes.
func TestFitsByNodesOfTheDifferenceAlone(t *testing.T) {
	for _, width := range bothWidths() {
		checkFitsCases(t, width, []fitsCase{
			{"x = 1; sqrt(y) = 2", "0..1 -2..-1", true}, {"x = 1; sqrt(y) = 2", "0..1 0..1", true}, {"x = 1; 1 / y = 2", "0..1 -1..1", true}, {"x = 1; 1 / y = 2", "0..1 0", true}, {"sqrt(y) = 2; x = 1", "0..1 -2..-1", false}, {"sqrt(y) = 2; x = 1", "0..1 0..1", false}, {"1 / y = 2; x = 1", "0..1 -1..1", false}, {"y = 1; sqrt(y) = 2", "0..1 -2..-1", true}, {"y = 1; 1 / y = 2", "0..1 0", true},
			// The difference is there already, and is a part of another node.
			{"x = y; sqrt(x - y) = 2", "0..1 2..3", true}, {"x = y; 1 / (x - y) = 2", "0..1 0..1", true}, {"sqrt(x) = y; 2 / (sqrt(x) - y) = 1", "1..4 1..2", true},
		})
		g := graphWith(t, "x y", "x + y = 3")
		for _, node := range []impl.GraphNode{{Kind: impl.TermRoot}, {Kind: impl.TermDiv, A: 1}, {Kind: impl.TermAbs}, {Kind: impl.TermRoot, A: 2}, {Kind: impl.TermDiv, A: 2, B: 2}} {
			more := withNodes(g, node)
			for _, box := range []string{"-2..-1 0..4", "0 1..2", "-1..1 -1..1"} {
				if !checkFits(t, width, more, boxAs(t, width, box), 0) {
					t.Errorf("%d: %q does not fit over %s", width, textOfGraph(more), box)
				}
				checkBySlopes(t, width, more, boxAs(t, width, box))
			}
		}
	}
	// The slope by y divides by the square of y, which has 0 as it is rounded.
	checkFitsCases(t, 32, []fitsCase{{"x / y = 1", "1..2 1e-30..1e-29", true}, {"x / y <= 1", "-1..2 -1e-29..-1e-30", true}, {"1 / (1 / x) = 1", "1e30..1e31", true}})
	checkFitsCases(t, 64, []fitsCase{{"x / y = 1", "1..2 1e-200..1e-199", true}, {"x / y <= 1", "-1..2 -1e-199..-1e-200", true}, {"1 / (1 / x) = 1", "1e200..1e201", true}})
}

// Each relation by its place.
func TestFitsByTheRelation(t *testing.T) {
	for _, width := range bothWidths() {
		g := graphWith(t, "x y", "x = 1; abs(x) = 1; 1 / y <= 2; sqrt(x) >= y; x * y = 3; x / x = 1")
		for at, want := range map[string][]bool{"1..2 1..2": {true, false, true, true, true, true}, "-1..2 1..2": {true, false, true, false, true, false}, "1..2 -1..2": {true, false, false, true, true, true}, "0 0": {true, false, false, false, true, false}} {
			for rel, is := range want {
				if got := checkFits(t, width, g, boxAs(t, width, at), rel); got != is {
					t.Errorf("%d: NewtonFits %d over %s: %v", width, rel, at, got)
				}
			}
		}
	}
}

// Graphs and boxes by chance.
func TestFitsOfSomeGraphs(t *testing.T) {
	t.Parallel()
	s := spread{264}
	fit := map[bool]int{}
	for at := range 1500 {
		g := onlyKinds(&s, 1+at%4, []int{1, 2, 4, 8}[at%4], allKinds()...)
		if at%2 == 0 {
			g = onlyKinds(&s, 1+at%4, []int{1, 2, 4, 8}[at%4], smoothKinds()...)
		}
		for _, width := range bothWidths() {
			b := someBoxOf(&s, width, g.Vars)
			for rel := range g.Rels {
				fit[checkFits(t, width, g, b, rel)]++
			}
		}
	}
	if fit[true] < 3000 || fit[false] < 1500 {
		t.Errorf("only %v", fit)
	}
}
