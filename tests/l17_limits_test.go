package tests

import (
	"testing"

	"loop.example/pinfold/impl"
)

// paddedBehind is a graph with so many nodes more behind it, of which no slope has any.
func paddedBehind(g impl.Graph, count int) impl.Graph {
	out := copiedGraph(g)
	part := len(g.Nodes) - 1
	for range count {
		out.Nodes = append(out.Nodes, impl.GraphNode{Kind: impl.TermAbs, A: part})
		part = len(out.Nodes) - 1
	}
	return out
}

// paddedAhead is a graph with so many nodes more between its variables and its other nodes.
func paddedAhead(g impl.Graph, count int) impl.Graph {
	out := paddedBehind(varsGraph(g.Vars, g.Vars), count)
	out.Rels = nil
	moved := func(place int, isPlace bool) int {
		if isPlace && place >= g.Vars {
			return place + count
		}
		return place
	}
	for _, node := range g.Nodes[g.Vars:] {
		parts := len(nodeParts(node))
		node.A, node.B = moved(node.A, parts > 0), moved(node.B, parts > 1)
		out.Nodes = append(out.Nodes, node)
	}
	for _, rel := range g.Rels {
		out.Rels = append(out.Rels, impl.GraphRel{Kind: rel.Kind, Left: moved(rel.Left, true), Right: moved(rel.Right, true)})
	}
	return out
}

// roomFor is a problem, a variable, and how many nodes the slope of the left side of its first relation and the slopes of that relation lay down.
type roomFor struct {
	lines      string
	v          int
	make, rels int
}

// Graphs that come to so many nodes as may be, and to one more, with the nodes that fill them behind and ahead.
func TestSlopesAtTheLimit(t *testing.T) {
	for _, c := range []roomFor{
		{"x = 7", 0, 1, 3}, {"y = x", 0, 1, 4}, {"7 = x", 1, 1, 4}, {"x + y = 7", 0, 2, 3}, {"x - y = 7", 1, 3, 4}, {"x * y = 7", 0, 2, 3}, {"x * x = 7", 0, 2, 4}, {"x^2 = y", 0, 3, 6}, {"x^8 = y", 0, 4, 7},
		{"x / y = 7", 0, 4, 7}, {"x / y = 7", 1, 5, 7}, {"sqrt(x) = 7", 0, 4, 6}, {"0 * x^8 = 7", 0, 4, 5}, {"x = 1", 0, 0, 2}, {"x - 0 = 1", 1, 0, 1}, {"x - 0 = 0", 1, 0, 2},
	} {
		g := graphWith(t, "x y", c.lines)
		for _, pad := range []func(impl.Graph, int) impl.Graph{paddedBehind, paddedAhead} {
			for more := -1; more <= 2; more++ {
				full := pad(g, impl.GraphMaxNodes-c.make-len(g.Nodes)+more)
				if len(full.Nodes) > impl.GraphMaxNodes {
					continue
				}
				made, _, ok := checkSlope(t, full, full.Rels[0].Left, c.v)
				if ok != (more <= 0) || ok && len(made.Nodes) != impl.GraphMaxNodes+more {
					t.Errorf("%q by %d, %d more: %v, %d nodes", c.lines, c.v, more, ok, len(made.Nodes))
				}
			}
			for more := -1; more <= 2; more++ {
				full := pad(g, impl.GraphMaxNodes-c.rels-len(g.Nodes)+more)
				if len(full.Nodes) > impl.GraphMaxNodes {
					continue
				}
				made, _, _, ok := checkSlopeRel(t, full, 0)
				if ok != (more <= 0) || ok && len(made.Nodes) != impl.GraphMaxNodes+more {
					t.Errorf("%q, %d more: %v, %d nodes", c.lines, more, ok, len(made.Nodes))
				}
			}
		}
	}
}

// The difference itself is one more, or there already, where there is no more room.
func TestDifferencesAtTheLimit(t *testing.T) {
	g := graphWith(t, "x", "x - x = 0; 1 - 1 = x; x = x")
	full := paddedBehind(g, impl.GraphMaxNodes-len(g.Nodes))
	if made, at, slopes, ok := checkSlopeRel(t, full, 2); !ok || at != 1 || len(slopes) != 1 || slopes[0] != 4 || !sameGraph(made, full) {
		t.Errorf("all is there: %d, %v, %v", at, slopes, ok)
	}
	if _, _, _, ok := checkSlopeRel(t, full, 0); ok {
		t.Error("the difference is not there")
	}
	if _, _, ok := checkSlope(t, full, 1, 0); !ok {
		t.Error("the slope is there")
	}
	// The first slopes have room, the last one has not.
	g = graphWith(t, "x y z", "x + y = z")
	for free := range 8 {
		full := paddedBehind(g, impl.GraphMaxNodes-len(g.Nodes)-free)
		if _, _, _, ok := checkSlopeRel(t, full, 0); ok != (free >= 4) {
			t.Errorf("%d nodes free: %v", free, ok)
		}
	}
}

// Slopes far beyond the limit come to an end soon: of as many nodes as can be, each over those ahead of it.
func TestSlopesOfGreatGraphs(t *testing.T) {
	for _, node := range []impl.GraphNode{{Kind: impl.TermMul}, {Kind: impl.TermDiv}, {Kind: impl.TermSub}, {Kind: impl.TermPow, N: 8}, {Kind: impl.TermRoot}, {Kind: impl.TermNeg}, {Kind: impl.TermPow, N: 1}, {Kind: impl.TermPow}} {
		g := varsGraph(6, 6)
		for at := 6; at < 120; at++ {
			next := node
			next.A = at - 1
			if partsWanted(ownNode(node)) == 2 {
				next.B = at - 6
			}
			g.Nodes = append(g.Nodes, next)
		}
		g.Rels = []impl.GraphRel{{Kind: 1, Left: 118, Right: 117}, {Kind: 1, Left: 10, Right: 60}}
		for rel := range g.Rels {
			checkSlopeRel(t, g, rel)
		}
		for v := range g.Vars {
			checkSlope(t, g, 119, v)
			checkSlope(t, g, 60, v)
		}
		// Some of it, so that there is room.
		less := copiedGraph(g)
		less.Nodes = less.Nodes[:30]
		less.Rels = []impl.GraphRel{{Kind: 2, Left: 20, Right: 29}}
		checkSlopeRel(t, less, 0)
	}
}

// Graphs by chance, filled up so that a slope has just room, and one less.
func TestSlopesOfSomeGraphsAtTheLimit(t *testing.T) {
	t.Parallel()
	s := spread{242}
	both := 0
	for at := range 300 {
		g := onlyKinds(&s, 1+at%6, 3+at%20, smoothKinds()...)
		made, _, _, ok := slopesOfRel(g, 0)
		if !ok {
			continue
		}
		both++
		free := impl.GraphMaxNodes - len(made.Nodes)
		for _, full := range []impl.Graph{paddedBehind(g, free), paddedAhead(g, free)} {
			if _, _, _, ok := checkSlopeRel(t, full, 0); !ok {
				t.Errorf("%q has room", textOfGraph(full))
			}
		}
		if free+len(g.Nodes) >= impl.GraphMaxNodes {
			continue
		}
		for _, full := range []impl.Graph{paddedBehind(g, free+1), paddedAhead(g, free+1)} {
			if _, _, _, ok := checkSlopeRel(t, full, 0); ok {
				t.Errorf("%q has no room", textOfGraph(full))
			}
		}
	}
	if both < 150 {
		t.Errorf("only %d graphs", both)
	}
}
