package tests

import (
	"math"
	"math/big"
	"slices"
	"testing"

	"loop.example/pinfold/impl"
)

// checkNoPoint wants nothing of both functions.
func checkNoPoint(t *testing.T, what string, g impl.Graph, point []impl.Frac) {
	t.Helper()
	if nodes := impl.PointEval(g, point); len(nodes) != 0 {
		t.Errorf("PointEval, %s: %q", what, nodesText(nodes))
	}
	if holds := impl.PointHolds(g, point); holds != 0 {
		t.Errorf("PointHolds, %s: %d", what, holds)
	}
}

// solvedAndNot are ok graphs that hold or do not hold where all variables are 1: so neither answer is 0 by itself.
func solvedAndNot(t *testing.T) map[string]impl.Graph {
	return map[string]impl.Graph{"holds": graphOfLines(t, "var x", "var y", "x <= y", "x^2 >= 0"), "does not hold": graphOfLines(t, "var x", "var y", "x >= y + 5"), "is none": graphOfLines(t, "var x", "var y", "x / (y - y) = 1")}
}

func TestPointsWithFractionsThatAreNotOk(t *testing.T) {
	good := impl.FracInt(1)
	for name, g := range solvedAndNot(t) {
		if impl.PointHolds(g, []impl.Frac{good, good}) == 0 {
			t.Fatalf("the test itself has a point that is open: %s", name)
		}
		for _, wrong := range wrongFracs() {
			checkNoPoint(t, name, g, []impl.Frac{wrong, good})
			checkNoPoint(t, name, g, []impl.Frac{good, wrong})
			checkNoPoint(t, name, g, []impl.Frac{wrong, wrong})
		}
		// By hand: not in lowest terms, a lower part that is 0, a 0 below 0.
		for _, wrong := range []impl.Frac{{Top: []int{2}, Bottom: []int{4}}, {Top: []int{1}}, {}, {Below: true, Bottom: []int{1}}} {
			checkNoPoint(t, name, g, []impl.Frac{good, wrong})
		}
	}
	// Also where no node but the variable itself has it.
	g := varsGraph(2, 2)
	for _, wrong := range wrongFracs() {
		checkNoPoint(t, "not asked for", g, []impl.Frac{good, wrong})
	}
}

func TestPointsOfTooFewAndTooManyFractions(t *testing.T) {
	for vars := 1; vars <= impl.ProgMaxVars; vars++ {
		g := varsGraph(vars, vars)
		for count := range 10 {
			point := slices.Repeat([]impl.Frac{impl.FracInt(3)}, count)
			if count == vars {
				if nodes := impl.PointEval(g, point); len(nodes) != vars || impl.PointHolds(g, point) != 1 {
					t.Errorf("%d variables: %q", vars, nodesText(nodes))
				}
				continue
			}
			checkNoPoint(t, "too few or too many", g, point)
		}
		checkNoPoint(t, "no list", g, nil)
		checkNoPoint(t, "very many", g, slices.Repeat([]impl.Frac{impl.FracInt(3)}, 100000))
	}
	for name, g := range solvedAndNot(t) {
		checkNoPoint(t, name, g, []impl.Frac{impl.FracInt(1)})
		checkNoPoint(t, name, g, []impl.Frac{impl.FracInt(1), impl.FracInt(1), impl.FracInt(1)})
	}
}

// checkAnyCount asks for a graph that is not ok with as many fractions as there could be meant.
func checkAnyCount(t *testing.T, g impl.Graph) {
	t.Helper()
	if isGraph(g) {
		t.Fatalf("the test itself has an ok graph: %v", g)
	}
	for count := range 8 {
		checkNoPoint(t, "a graph that is not ok", g, slices.Repeat([]impl.Frac{impl.FracInt(1)}, count))
	}
}

func TestPointsOfWrongGraphs(t *testing.T) {
	for _, g := range []impl.Graph{{}, {Vars: 1}, {Vars: math.MaxInt}, {Vars: math.MinInt}, {Vars: -1}, negated(120), negated(100000), varsGraph(0, 0), varsGraph(0, 1), varsGraph(7, 7), varsGraph(1, 2), varsGraph(2, 1)} {
		checkAnyCount(t, g)
	}
	bare := kindsGraph()
	bare.Rels = nil
	checkAnyCount(t, bare)
	for at := range kindsGraph().Nodes {
		for _, node := range []impl.GraphNode{{}, {Kind: impl.TermCall, N: 1, Text: "f"}, {Kind: impl.TermCall, N: 6, Text: "f"}, {Kind: impl.TermCall, N: -1, Text: "f"}, {Kind: impl.TermNeg, A: at}, {Kind: impl.TermNeg, A: at + 1}, {Kind: impl.TermAdd, A: -1}, {Kind: impl.TermAdd, B: math.MaxInt}, {Kind: impl.TermName, N: 7}, {Kind: impl.TermName, N: -1}, {Kind: impl.TermNumber}, {Kind: impl.TermNumber, Text: "x"}, {Kind: impl.TermNumber, Text: "1e401"}, {Kind: impl.TermPow, A: 0, N: 9}, {Kind: impl.TermPow, A: 0, N: -1}, {Kind: math.MinInt}} {
			g := kindsGraph()
			g.Nodes[at] = node
			checkAnyCount(t, g)
		}
	}
	for _, rel := range []impl.GraphRel{{}, {Kind: 4}, {Kind: 1, Left: -1}, {Kind: 1, Right: 13}, {Kind: -1}, {Kind: 1, Left: math.MaxInt}, {Kind: 2, Right: math.MinInt}} {
		g := kindsGraph()
		g.Rels[1] = rel
		checkAnyCount(t, g)
	}
	s := spread{235}
	wrong := 0
	for range 1000 {
		g := changedGraph(&s, someGraph(&s, 8))
		if isGraph(g) {
			checkPoint(t, g, somePoint(&s, g.Vars))
			continue
		}
		wrong++
		checkAnyCount(t, g)
		checkNoPoint(t, "a changed graph", g, fracsOf(slices.Repeat([]*big.Rat{smallRat(-1, 2)}, min(max(g.Vars, 0), 9))))
	}
	if wrong < 400 {
		t.Errorf("only %d wrong graphs", wrong)
	}
}
