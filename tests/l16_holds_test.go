package tests

import (
	"testing"

	"loop.example/pinfold/impl"
)

// Relations of each kind that hold, just hold and do not hold.
func TestRelationsAtPoints(t *testing.T) {
	checkPointCases(t, []pointCase{
		{"x <= y", "1/3 1/2", "1/3 1/2", 1}, {"x <= y", "1/2 1/2", "1/2 1/2", 1}, {"x <= y", "1/2 1/3", "1/2 1/3", -1}, {"x <= y", "-1/2 -1/3", "-1/2 -1/3", 1}, {"x <= y", "-1/3 -1/2", "-1/3 -1/2", -1},
		{"x >= y", "1/3 1/2", "1/3 1/2", -1}, {"x >= y", "1/2 1/2", "1/2 1/2", 1}, {"x >= y", "1/2 1/3", "1/2 1/3", 1}, {"x >= y", "-1/2 1/3", "-1/2 1/3", -1},
		{"x = y", "1/3 1/2", "1/3 1/2", -1}, {"x = y", "1/2 1/2", "1/2 1/2", 1}, {"x = y", "1/2 1/3", "1/2 1/3", -1}, {"x = y", "-1/2 1/2", "-1/2 1/2", -1}, {"x = y", "0 0", "0 0", 1},
		{"x <= x", "7", "7", 1}, {"x >= x", "7", "7", 1}, {"x = x", "7", "7", 1},
		{"x^2 + y^2 = 1", "3/5 4/5", "3/5 4/5 9/25 16/25 1 1", 1},
		{"x^2 + y^2 = 1", "3/5 3/5", "3/5 3/5 9/25 9/25 18/25 1", -1},
		{"x^2 = 2", "1.41421356237", "141421356237/100000000000 19999999999912458800169/10000000000000000000000 2", -1},
		{"x <= 0.1", "0.1000000000000000000000000000000000000000001", "1000000000000000000000000000000000000000001/10000000000000000000000000000000000000000000 1/10", -1},
	})
}

// All relations must hold: one that does not, at each place among others that do.
func TestEachRelationBears(t *testing.T) {
	for count := 1; count <= impl.ProgMaxRels; count++ {
		for wrong := -1; wrong < count; wrong++ {
			for _, broken := range []impl.GraphRel{{Kind: impl.ProgLess, Left: 1, Right: 0}, {Kind: impl.ProgMore, Left: 0, Right: 1}, {Kind: impl.ProgEqual, Left: 0, Right: 1}} {
				g := varsGraph(2, 2)
				g.Rels = nil
				for at := range count {
					g.Rels = append(g.Rels, impl.GraphRel{Kind: 1 + at%3, Left: at % 2, Right: at % 2})
				}
				want := 1
				if wrong >= 0 {
					g.Rels[wrong] = broken
					want = -1
				}
				if _, holds := checkPoint(t, g, ratsOf(t, "1 2")); holds != want {
					t.Errorf("%v of %d relations is wrong: %d", wrong, count, holds)
				}
			}
		}
	}
}

// A node that is none or hidden bears on the answer though no relation asks for it.
func TestNodesThatNoRelationAsksFor(t *testing.T) {
	root, quotient := impl.GraphNode{Kind: impl.TermRoot}, impl.GraphNode{Kind: impl.TermDiv, A: 0, B: 1}
	for _, c := range []struct {
		nodes []impl.GraphNode
		point string
		text  string
		holds int
	}{
		{[]impl.GraphNode{root}, "4 0", "4 0 2", 1},
		{[]impl.GraphNode{root}, "2 0", "2 0 hidden", 0},
		{[]impl.GraphNode{root}, "-4 0", "-4 0 none", -1},
		{[]impl.GraphNode{quotient}, "4 3", "4 3 4/3", 1},
		{[]impl.GraphNode{quotient}, "4 0", "4 0 none", -1},
		{[]impl.GraphNode{root, quotient}, "2 3", "2 3 hidden 2/3", 0},
		{[]impl.GraphNode{root, quotient}, "2 0", "2 0 hidden none", -1},
		{[]impl.GraphNode{quotient, root}, "2 0", "2 0 none hidden", -1},
		{[]impl.GraphNode{quotient, root, {Kind: impl.TermNeg, A: 3}}, "2 1", "2 1 2 hidden hidden", 0},
	} {
		for kind := impl.ProgLess; kind <= impl.ProgEqual; kind++ {
			for side := range 2 {
				g := varsGraph(2, 2)
				g.Nodes = append(g.Nodes, c.nodes...)
				g.Rels = []impl.GraphRel{{Kind: kind, Left: side, Right: side}}
				nodes, holds := checkPoint(t, g, ratsOf(t, c.point))
				if text := nodesText(nodes); text != c.text || holds != c.holds {
					t.Errorf("%v at %s: %q, %d", c.nodes, c.point, text, holds)
				}
			}
		}
	}
}

// A relation that does not hold goes ahead of what is hidden, one that may hold or not does not; of one a side of which has no value nothing is told.
func TestRelationsBesideHiddenNodes(t *testing.T) {
	checkPointCases(t, []pointCase{
		{"sqrt(x) <= 2; x >= 3", "2", "2 hidden 2 3", -1},
		{"x >= 3; sqrt(x) <= 2", "2", "2 3 hidden 2", -1},
		{"x >= 2; sqrt(x) <= 2", "2", "2 2 hidden", 0},
		{"sqrt(x) >= 9; x = 2", "2", "2 hidden 9 2", 0},
		{"9 <= sqrt(x); x = 2", "2", "2 9 hidden 2", 0},
		{"sqrt(x) = sqrt(x)", "2", "2 hidden", 0},
		{"sqrt(x) <= sqrt(y)", "3 2", "3 2 hidden hidden", 0},
		{"sqrt(x) = x", "2", "2 hidden", 0},
		{"x = sqrt(x)", "-2", "-2 none", -1},
		{"1 / x = 1 / x", "0", "0 1 none", -1},
		{"x = 0; 1 / x = 5", "0", "0 0 1 none 5", -1},
		{"sqrt(x) <= 2; 1 / y <= 1", "2 0", "2 0 hidden 2 1 none", -1},
		{"1 / y <= 1; sqrt(x) <= 2", "2 0", "2 0 1 none hidden 2", -1},
		{"x >= 3; 1 / y <= 1; sqrt(x) <= 2", "2 0", "2 0 3 1 none hidden 2", -1},
	})
}

// Where a side has no value its relation is never broken, whatever it stands against.
func TestRelationsOfOneSide(t *testing.T) {
	for kind := impl.ProgLess; kind <= impl.ProgEqual; kind++ {
		for _, other := range []string{"-1000", "0", "1000"} {
			for side := range 2 {
				g := varsGraph(2, 2)
				g.Nodes = append(g.Nodes, impl.GraphNode{Kind: impl.TermRoot})
				g.Rels = []impl.GraphRel{{Kind: kind, Left: 1 + side, Right: 2 - side}}
				if _, holds := checkPoint(t, g, ratsOf(t, "2 "+other)); holds != 0 {
					t.Errorf("kind %d against %s: %d", kind, other, holds)
				}
			}
		}
	}
}
