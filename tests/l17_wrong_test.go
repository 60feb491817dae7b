package tests

import (
	"math"
	"slices"
	"testing"

	"loop.example/pinfold/impl"
)

// noPlaces are numbers that are no places of a list of so many.
func noPlaces(count int) []int {
	return []int{math.MinInt, math.MinInt32, -count - 1, -count, -2, -1, count, count + 1, 2*count + 1, 1000000, math.MaxInt32, math.MaxInt}
}

// checkNoSlope wants nothing of SlopeMake.
func checkNoSlope(t *testing.T, g impl.Graph, at int, v int) {
	t.Helper()
	if made, place, ok := impl.SlopeMake(g, at, v); ok || place != 0 || !noGraph(made) {
		t.Errorf("SlopeMake of %.600v, %d, %d: %v, %d, %v", g, at, v, made, place, ok)
	}
}

// checkNoSlopes wants nothing of SlopeRel.
func checkNoSlopes(t *testing.T, g impl.Graph, rel int) {
	t.Helper()
	if made, at, slopes, ok := impl.SlopeRel(g, rel); ok || at != 0 || len(slopes) != 0 || !noGraph(made) {
		t.Errorf("SlopeRel of %.600v, %d: %v, %d, %v, %v", g, rel, made, at, slopes, ok)
	}
}

func checkNotSmooth(t *testing.T, g impl.Graph, at int) {
	t.Helper()
	if impl.SlopeSmooth(g, at) {
		t.Errorf("SlopeSmooth of %.600v, %d", g, at)
	}
}

// smoothGraphs are graphs each of whose nodes has a slope, and each of whose relations has some.
func smoothGraphs(t *testing.T) []impl.Graph {
	t.Helper()
	return []impl.Graph{leastGraph(), varsGraph(6, 6), graphWith(t, "x", "x = 7"), graphWith(t, "x y", "x * y = 7; sqrt(x) <= y^3; 1 / x >= -y")}
}

// Places, variables and relations that are none, on either side.
func TestSlopesOfWhatIsNotThere(t *testing.T) {
	for _, g := range smoothGraphs(t) {
		for _, at := range noPlaces(len(g.Nodes)) {
			checkNotSmooth(t, g, at)
			for v := range g.Vars {
				checkNoSlope(t, g, at, v)
			}
			checkNoSlope(t, g, at, -1)
			checkNoSlope(t, g, at, g.Vars)
		}
		for at := range g.Nodes {
			for _, v := range noPlaces(g.Vars) {
				checkNoSlope(t, g, at, v)
			}
			for v := range g.Vars {
				if _, _, ok := checkSlope(t, g, at, v); !ok {
					t.Errorf("the test itself has a node without a slope: %q, %d", textOfGraph(g), at)
				}
			}
		}
		for _, rel := range noPlaces(len(g.Rels)) {
			checkNoSlopes(t, g, rel)
		}
		for rel := range g.Rels {
			if _, _, _, ok := checkSlopeRel(t, g, rel); !ok {
				t.Errorf("the test itself has a relation without slopes: %q, %d", textOfGraph(g), rel)
			}
		}
	}
}

// A place of a node that is no variable is no variable, though it is a place.
func TestSlopesByWhatIsNoVariable(t *testing.T) {
	g := graphWith(t, "x y", "x * y = 7; x + y = 3")
	for at := range g.Nodes {
		for v := range g.Nodes {
			if _, _, ok := checkSlope(t, g, at, v); ok != (v < 2) {
				t.Errorf("%d by %d: %v", at, v, ok)
			}
		}
	}
}

// checkNothingOf asks all three functions for a graph that is not ok.
func checkNothingOf(t *testing.T, g impl.Graph) {
	t.Helper()
	if isGraph(g) {
		t.Fatalf("the test itself has an ok graph: %v", g)
	}
	for _, at := range []int{-1, 0, 1, 2, 5, len(g.Nodes) - 1, len(g.Nodes)} {
		checkNotSmooth(t, g, at)
		for _, v := range []int{-1, 0, 1, g.Vars - 1, g.Vars} {
			checkNoSlope(t, g, at, v)
		}
	}
	for _, rel := range []int{-1, 0, 1, len(g.Rels) - 1, len(g.Rels)} {
		checkNoSlopes(t, g, rel)
	}
}

func TestSlopesOfWrongGraphs(t *testing.T) {
	for _, g := range []impl.Graph{{}, {Vars: 1}, {Vars: math.MaxInt}, {Vars: math.MinInt}, {Vars: -1}, negated(120), negated(100000), varsGraph(0, 0), varsGraph(0, 1), varsGraph(7, 7), varsGraph(1, 2), varsGraph(2, 1)} {
		checkNothingOf(t, g)
	}
	base := graphWith(t, "x y", "x * y = 7; -x <= y; sqrt(y) = 2")
	for _, count := range []int{0, 13, 100} {
		g := copiedGraph(base)
		g.Rels = slices.Repeat(base.Rels[:1], count)
		checkNothingOf(t, g)
	}
	for at := range base.Nodes {
		for _, node := range []impl.GraphNode{{}, {Kind: impl.TermCall, N: 1, Text: "f"}, {Kind: impl.TermCall, N: -1, Text: "f"}, {Kind: impl.TermNeg, A: at}, {Kind: impl.TermNeg, A: at + 1}, {Kind: impl.TermNeg, A: math.MaxInt}, {Kind: impl.TermAdd, A: -1}, {Kind: impl.TermAdd, B: math.MaxInt}, {Kind: impl.TermName, N: 7}, {Kind: impl.TermName, N: -1}, {Kind: impl.TermNumber}, {Kind: impl.TermNumber, Text: "x"}, {Kind: impl.TermPow, N: 9}, {Kind: impl.TermPow, N: -1}, {Kind: 14}, {Kind: math.MaxInt}, {Kind: math.MinInt}} {
			g := copiedGraph(base)
			g.Nodes[at] = node
			checkNothingOf(t, g)
		}
		// Two that are alike.
		g := copiedGraph(base)
		g.Nodes = append(g.Nodes, base.Nodes[at])
		checkNothingOf(t, g)
	}
	for at := range base.Rels {
		for _, rel := range []impl.GraphRel{{}, {Kind: 4}, {Kind: 1, Left: -1}, {Kind: 1, Right: len(base.Nodes)}, {Kind: -1}, {Kind: 1, Left: math.MaxInt}, {Kind: 2, Right: math.MinInt}} {
			g := copiedGraph(base)
			g.Rels[at] = rel
			checkNothingOf(t, g)
		}
	}
}

func TestSlopesOfManyWrongGraphs(t *testing.T) {
	t.Parallel()
	s := spread{247}
	wrong := 0
	for at := range 1000 {
		g := changedGraph(&s, onlyKinds(&s, 1+at%6, 8, wholeKinds()...))
		if !isGraph(g) {
			wrong++
			checkNothingOf(t, g)
			continue
		}
		for place := -1; place <= len(g.Nodes); place++ {
			checkSlope(t, g, place, at%7-1)
		}
		for rel := -1; rel <= len(g.Rels); rel++ {
			checkSlopeRel(t, g, rel)
		}
	}
	if wrong < 400 {
		t.Errorf("only %d wrong graphs", wrong)
	}
}
