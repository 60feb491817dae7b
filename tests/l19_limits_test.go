package tests

import (
	"slices"
	"testing"

	"loop.example/pinfold/impl"
)

// Graphs whose slopes come to just so many nodes as may be, and to one more: then they do not fit, and the box stays.
func TestSlopesOfFullGraphs(t *testing.T) {
	for _, width := range bothWidths() {
		for _, c := range []struct {
			lines, box, left string
			nodes            int
		}{
			{"x = 3", "1..4 1..4", "3 1..4", 3}, {"x <= 3", "1..4 1..4", "1..3 1..4", 3}, {"x^2 = 9", "1..4 1..4", "21/8..4 1..4", 5}, {"x * y = 12", "1..4 1..4", "3..4 3..4", 3}, {"sqrt(x) = 3", "1..16 1..4", "6..12 1..4", 6}, {"1 / x = 0.5", "1..4 1..4", "2 1..4", 5},
		} {
			g := graphWith(t, "x y", c.lines)
			for _, pad := range []func(impl.Graph, int) impl.Graph{paddedBehind, paddedAhead} {
				for more := -1; more <= c.nodes; more++ {
					full := pad(g, impl.GraphMaxNodes-c.nodes-len(g.Nodes)+more)
					b, left := boxAs(t, width, c.box), boxAs(t, width, c.left)
					if more > 0 {
						left = b
					}
					got := checkBySlopes(t, width, full, b)
					if fits := impl.NewtonFits(width, full, b, 0); fits != (more <= 0) {
						t.Errorf("%d: %q, %d more: NewtonFits: %v", width, c.lines, more, fits)
					}
					if got := checkSlopes(t, width, full, b, 0); !got.ok || !sameBox(got.box, left) {
						t.Errorf("%d: %q, %d more: %s", width, c.lines, more, got.text(width))
					}
					if !got.ok {
						t.Errorf("%d: %q, %d more: nothing is left in all", width, c.lines, more)
					}
				}
			}
		}
	}
}

// Graphs of so many nodes as may be, of so many relations, over boxes of as many pairs as may be.
func TestSlopesAtAllLimits(t *testing.T) {
	t.Parallel()
	s := spread{273}
	left, fit := 0, 0
	for range 16 {
		// Sums of variables with what stands behind them: their slopes are numbers.
		g := varsGraph(6, 6)
		pad := slopePad{g.Nodes}
		for at := 0; at < 12; at++ {
			pad.putNumber([]string{"0", "1", "2", "3"}[at%4])
		}
		for len(pad.nodes) < 100 {
			pad.put(signNode(pick(&s, []string{"+", "-"}), int(s.next()%uint64(len(pad.nodes))), int(s.next()%6)))
		}
		g.Nodes, g.Rels = pad.nodes, nil
		for at := range impl.ProgMaxRels {
			g.Rels = append(g.Rels, impl.GraphRel{Kind: 1 + at%3, Left: 99 - at, Right: int(s.next() % 100)})
		}
		full := paddedBehind(g, impl.GraphMaxNodes-len(g.Nodes))
		for _, width := range bothWidths() {
			b := someBoxOf(&s, width, 6)
			for _, one := range []impl.Graph{g, full} {
				if checkBySlopes(t, width, one, b).ok {
					left++
				}
			}
			for rel := range g.Rels {
				if impl.NewtonFits(width, g, b, rel) {
					fit++
				}
			}
			checkNothingBySlopes(t, width, paddedBehind(full, 1), b)
		}
	}
	if left < 4 || fit < 100 {
		t.Errorf("only %d left, %d fit", left, fit)
	}
}

// Each count of variables, and each of them the one that is narrowed.
func TestSlopesByEachVariable(t *testing.T) {
	for _, width := range bothWidths() {
		for vars := 1; vars <= impl.BoxMaxVars; vars++ {
			for at := range vars {
				g := varsGraph(vars, vars)
				g.Nodes = append(g.Nodes, impl.GraphNode{Kind: impl.TermNumber, Text: "3"}, impl.GraphNode{Kind: impl.TermPow, A: at, N: 2})
				b := impl.Box{Pairs: slices.Repeat(boxAs(t, width, "1..4").Pairs, vars)}
				g.Rels = []impl.GraphRel{{Kind: 1, Left: at, Right: vars}}
				if got := checkSlopes(t, width, g, b, 0); !sameBox(got.box, withPair(b, at, boxAs(t, width, "1..3").Pairs[0])) {
					t.Errorf("%d: %d of %d: %s", width, at, vars, got.text(width))
				}
				g.Rels = append(g.Rels, impl.GraphRel{Kind: 2, Left: vars + 1, Right: vars})
				if got := checkSlopes(t, width, g, b, 1); !sameBox(got.box, withPair(b, at, boxAs(t, width, "3/2..4").Pairs[0])) {
					t.Errorf("%d: the square of %d of %d: %s", width, at, vars, got.text(width))
				}
				checkBySlopes(t, width, g, b)
			}
		}
	}
}

// Chains of so many nodes as their slopes have room for.
func TestSlopesOfChains(t *testing.T) {
	for _, width := range bothWidths() {
		// The slope of what is negated again and again is the same, or its negative: as many nodes again.
		for _, c := range []struct {
			count int
			left  string
		}{{54, "3"}, {56, "3"}, {57, "-10..10"}, {58, "-10..10"}, {100, "-10..10"}} {
			g := negated(c.count)
			g.Nodes = append(g.Nodes, impl.GraphNode{Kind: impl.TermNumber, Text: "3"})
			g.Rels = []impl.GraphRel{{Kind: 3, Left: c.count, Right: len(g.Nodes) - 1}}
			checkSlopes(t, width, g, boxAs(t, width, "-10..10"), 0)
			checkBySlopes(t, width, g, boxAs(t, width, "1..10"))
		}
		// A variable added to itself 32 times: the slope has as many ones.
		g := varsGraph(1, 1)
		pad := slopePad{g.Nodes}
		sum := 0
		for range 31 {
			sum = pad.put(signNode("+", sum, 0))
		}
		g.Rels = []impl.GraphRel{{Kind: 3, Left: sum, Right: pad.putNumber("64")}}
		g.Nodes = pad.nodes
		if got := checkSlopes(t, width, g, boxAs(t, width, "-16..16"), 0); !sameBox(got.box, boxAs(t, width, "2")) {
			t.Errorf("%d: the sum: %s", width, got.text(width))
		}
	}
}

// Bounds as great as can be, with each kind of nodes.
func TestSlopesOfGreatBounds(t *testing.T) {
	t.Parallel()
	for _, width := range bothWidths() {
		pairs := okPairs(width)[:60]
		for _, kind := range smoothKinds() {
			for n := range 9 {
				node := impl.GraphNode{Kind: kind, B: 1}
				switch {
				case kind == impl.TermPow:
					node.B, node.N = 0, n
				case n > 0:
					continue
				case kind == impl.TermNumber:
					node = impl.GraphNode{Kind: kind, Text: "1e400"}
				case partsWanted(ownNode(node)) == 1:
					node.B = 0
				}
				g := withNodes(varsGraph(3, 3), node)
				for at, p := range pairs {
					g.Rels = []impl.GraphRel{{Kind: 1 + at%3, Left: 3, Right: 2}}
					checkBySlopes(t, width, g, impl.Box{Pairs: []impl.Pair{p, pairs[(at*7+kind)%len(pairs)], pairs[(at*11+kind+n)%len(pairs)]}})
				}
			}
		}
	}
}
