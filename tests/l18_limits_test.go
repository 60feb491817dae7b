package tests

import (
	"slices"
	"testing"

	"loop.example/pinfold/impl"
)

// Graphs that come to just so many nodes as may be, over boxes of as many pairs as may be.
func TestHullAtTheLimit(t *testing.T) {
	t.Parallel()
	s := spread{261}
	left := 0
	for range 40 {
		g := onlyKinds(&s, 6, 114, impl.TermNumber, impl.TermNeg, impl.TermAdd, impl.TermSub, impl.TermMul, impl.TermAbs, impl.TermMin, impl.TermMax, impl.TermPow)
		g.Rels = nil
		for at := range impl.ProgMaxRels {
			g.Rels = append(g.Rels, impl.GraphRel{Kind: 1 + at%2, Left: 119 - at, Right: int(s.next() % 120)})
		}
		for _, width := range bothWidths() {
			b := someBoxOf(&s, width, 6)
			if got := checkOver(t, width, g, b); got.ok {
				left++
			}
			if spans := impl.HullForward(width, g, b); len(spans) != impl.GraphMaxNodes {
				t.Errorf("%d: %d spans", width, len(spans))
			}
			// A node more, and a variable more, is too many.
			more := withNodes(g, impl.GraphNode{Kind: impl.TermRoot, A: 119})
			checkNothingOver(t, width, more, b)
		}
	}
	if left < 5 {
		t.Errorf("only %d left", left)
	}
}

// Chains of so many nodes as may be: what is known of the last one goes back to the first one.
func TestHullOfChains(t *testing.T) {
	for _, width := range bothWidths() {
		g := negated(118)
		g.Nodes = append(g.Nodes, impl.GraphNode{Kind: impl.TermNumber, Text: "3"})
		for last, want := range map[int]string{118: "3", 117: "-3", 1: "-3"} {
			g.Rels = []impl.GraphRel{{Kind: 3, Left: last, Right: 119}}
			if got := checkRevise(t, width, g, boxAs(t, width, "-10..10"), 0); !sameBox(got.box, boxAs(t, width, want)) {
				t.Errorf("%d: from %d: %s", width, last, got.text(width))
			}
		}
		g.Rels = []impl.GraphRel{{Kind: 3, Left: 119, Right: 118}, {Kind: 1, Left: 118, Right: 0}, {Kind: 3, Left: 118, Right: 117}}
		checkOver(t, width, g, boxAs(t, width, "-10..10"))
		// The sum of six variables, doubled again and again.
		sum := varsGraph(6, 6)
		for at := range 5 {
			sum.Nodes = append(sum.Nodes, impl.GraphNode{Kind: impl.TermAdd, A: at + 1, B: max(at+5, 0)})
		}
		sum.Nodes[6].B = 0
		for len(sum.Nodes) < 119 {
			sum.Nodes = append(sum.Nodes, impl.GraphNode{Kind: impl.TermAdd, A: len(sum.Nodes) - 1, B: len(sum.Nodes) - 1})
		}
		sum.Nodes = append(sum.Nodes, impl.GraphNode{Kind: impl.TermNumber, Text: "6"})
		sum.Rels = []impl.GraphRel{{Kind: 1, Left: 10, Right: 119}}
		if got := checkRevise(t, width, sum, boxAs(t, width, "0..10 1..10 0..9 1..9 0..8 1..8"), 0); !sameBox(got.box, boxAs(t, width, "0..3 1..4 0..3 1..4 0..3 1..4")) {
			t.Errorf("%d: the sum: %s", width, got.text(width))
		}
		sum.Rels = []impl.GraphRel{{Kind: 1, Left: 118, Right: 119}, {Kind: 2, Left: 10, Right: 119}, {Kind: 3, Left: 20, Right: 4}}
		checkOver(t, width, sum, boxAs(t, width, "0..10 1..10 0..9 1..9 0..8 1..8"))
		checkOver(t, width, sum, boxAs(t, width, "0..1 0..1 0..inf -1..1 0..8 -1..8"))
	}
}

// Each count of variables, and in each place a box that narrows there alone.
func TestHullByEachVariable(t *testing.T) {
	for _, width := range bothWidths() {
		for vars := 1; vars <= impl.BoxMaxVars; vars++ {
			for at := range vars {
				g := varsGraph(vars, vars)
				g.Nodes = append(g.Nodes, impl.GraphNode{Kind: impl.TermNumber, Text: "3"})
				g.Rels = []impl.GraphRel{{Kind: 1, Left: at, Right: vars}}
				b := impl.Box{Pairs: slices.Repeat(boxAs(t, width, "0..10").Pairs, vars)}
				want := withPair(b, at, boxAs(t, width, "0..3").Pairs[0])
				if got := checkOver(t, width, g, b); !sameBox(got.box, want) {
					t.Errorf("%d: %d of %d: %s", width, at, vars, got.text(width))
				}
				// A gap of this variable.
				if vars == 1 {
					continue
				}
				other := (at + 1) % vars
				g.Nodes = append(g.Nodes, impl.GraphNode{Kind: impl.TermMul, A: at, B: other})
				g.Rels = []impl.GraphRel{{Kind: 3, Left: vars + 1, Right: vars}}
				b = impl.Box{Pairs: slices.Repeat(boxAs(t, width, "0").Pairs, vars)}
				b.Pairs[at], b.Pairs[other] = boxAs(t, width, "-5..7").Pairs[0], boxAs(t, width, "-1..2").Pairs[0]
				gap := impl.HullGap{Some: true, Var: at, Pair: impl.Pair{Lo: ordOf(width, -3), Hi: ordOf(width, 1.5)}}
				if got := checkOver(t, width, g, b); got.gap != gap || !sameBox(got.box, b) {
					t.Errorf("%d: %d of %d: %s", width, at, vars, got.text(width))
				}
			}
		}
	}
}

// Powers of each size, of bounds that are as great as can be.
func TestHullOfGreatBounds(t *testing.T) {
	t.Parallel()
	for _, width := range bothWidths() {
		pairs := okPairs(width)[:80]
		for n := range 9 {
			g := varsGraph(2, 2)
			g.Nodes = append(g.Nodes, impl.GraphNode{Kind: impl.TermPow, A: 0, N: n})
			for _, kind := range []int{1, 2, 3} {
				g.Rels = []impl.GraphRel{{Kind: kind, Left: 2, Right: 1}}
				for at, p := range pairs {
					checkOver(t, width, g, impl.Box{Pairs: []impl.Pair{p, pairs[(at*7+n)%len(pairs)]}})
				}
			}
		}
		for _, kind := range allKinds() {
			g := varsGraph(3, 3)
			node := impl.GraphNode{Kind: kind, B: 1, N: 0}
			switch {
			case kind == impl.TermNumber:
				node = impl.GraphNode{Kind: kind, Text: "1e400"}
			case partsWanted(ownNode(node)) == 1:
				node.B = 0
			}
			g.Nodes = append(g.Nodes, node)
			for at, p := range pairs {
				g.Rels = []impl.GraphRel{{Kind: 1 + at%3, Left: 3, Right: 2}}
				checkOver(t, width, g, impl.Box{Pairs: []impl.Pair{p, pairs[(at*7+kind)%len(pairs)], pairs[(at*11+kind)%len(pairs)]}})
			}
		}
	}
}
