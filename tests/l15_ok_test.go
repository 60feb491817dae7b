package tests

import (
	"math"
	"slices"
	"strings"
	"testing"

	"loop.example/pinfold/impl"
)

// kindsGraph has two variables and a node of each kind that may stand behind them.
func kindsGraph() impl.Graph {
	return impl.Graph{
		Vars: 2,
		Nodes: []impl.GraphNode{
			{Kind: impl.TermName}, {Kind: impl.TermName, N: 1}, {Kind: impl.TermNumber, Text: "2.50e1"}, {Kind: impl.TermNeg, A: 1}, {Kind: impl.TermAdd, A: 0, B: 3}, {Kind: impl.TermSub, A: 4, B: 1}, {Kind: impl.TermMul, A: 5, B: 5}, {Kind: impl.TermDiv, A: 6, B: 2},
			{Kind: impl.TermPow, A: 7, N: 8}, {Kind: impl.TermRoot, A: 8}, {Kind: impl.TermAbs, A: 9}, {Kind: impl.TermMin, A: 10, B: 0}, {Kind: impl.TermMax, A: 1, B: 11},
		},
		Rels: []impl.GraphRel{{Kind: impl.ProgLess, Left: 12, Right: 0}, {Kind: impl.ProgMore, Left: 3, Right: 12}, {Kind: impl.ProgEqual, Left: 5, Right: 5}},
	}
}

// leastGraph is a variable, and a relation of it with itself.
func leastGraph() impl.Graph {
	return impl.Graph{Vars: 1, Nodes: []impl.GraphNode{varNode(0)}, Rels: []impl.GraphRel{{Kind: 1}}}
}

func wantOkGraph(t *testing.T, g impl.Graph, want bool) {
	t.Helper()
	if isGraph(g) != want {
		t.Fatalf("the test itself wants %v of %v", want, g)
	}
	checkOkGraph(t, g)
}

func TestGraphsThatAreOk(t *testing.T) {
	wantOkGraph(t, kindsGraph(), true)
	wantOkGraph(t, leastGraph(), true)
	s := spread{209}
	for at := range 300 {
		wantOkGraph(t, someGraph(&s, []int{0, 1, 5, 20, 119}[at%5]), true)
	}
}

// varsGraph has so many variables said, and so many laid down.
func varsGraph(said int, laid int) impl.Graph {
	g := impl.Graph{Vars: said, Rels: []impl.GraphRel{{Kind: 1}}}
	for at := range laid {
		g.Nodes = append(g.Nodes, varNode(at))
	}
	return g
}

func TestGraphsByTheirVariables(t *testing.T) {
	for _, said := range []int{math.MinInt, -7, -1, 0, 1, 2, 3, 4, 5, 6, 7, 8, 120, math.MaxInt} {
		for laid := range 10 {
			wantOkGraph(t, varsGraph(said, laid), said == laid && said >= 1 && said <= impl.ProgMaxVars)
		}
		// Behind as many variables as are laid down stands something else.
		for laid := range 8 {
			g := varsGraph(said, laid)
			g.Nodes = append(g.Nodes, impl.GraphNode{Kind: impl.TermNumber, Text: "1"})
			wantOkGraph(t, g, said == laid && said >= 1 && said <= impl.ProgMaxVars)
		}
	}
	for _, wrong := range []impl.GraphNode{
		{}, {Kind: impl.TermName}, {Kind: impl.TermName, N: 2}, {Kind: impl.TermName, N: -1}, {Kind: impl.TermName, N: math.MaxInt}, {Kind: impl.TermName, N: 1, A: 1}, {Kind: impl.TermName, N: 1, A: -1}, {Kind: impl.TermName, N: 1, B: 1}, {Kind: impl.TermName, N: 1, B: math.MinInt}, {Kind: impl.TermName, N: 1, Text: "x"}, {Kind: impl.TermName, N: 1, Text: " "},
		{Kind: impl.TermName, Text: "x"}, {Kind: impl.TermNumber, Text: "1"}, {Kind: impl.TermNumber, N: 1}, {Kind: impl.TermNeg}, {Kind: impl.TermNeg, N: 1}, {Kind: impl.TermPow, N: 1}, {Kind: impl.TermAdd}, {Kind: impl.TermCall, N: 1, Text: "f"}, {Kind: 14, N: 1}, {N: 1},
	} {
		g := kindsGraph()
		g.Nodes[1] = wrong
		wantOkGraph(t, g, false)
	}
	g := kindsGraph()
	g.Nodes[0], g.Nodes[1] = g.Nodes[1], g.Nodes[0]
	wantOkGraph(t, g, false)
}

// negated is an ok graph of a variable and so many - over it.
func negated(count int) impl.Graph {
	g := leastGraph()
	for at := range count {
		g.Nodes = append(g.Nodes, impl.GraphNode{Kind: impl.TermNeg, A: at})
	}
	return g
}

func TestGraphsByHowMuchTheyHave(t *testing.T) {
	for count := 115; count <= 125; count++ {
		wantOkGraph(t, negated(count-1), count <= impl.GraphMaxNodes)
	}
	wantOkGraph(t, negated(100000), false)
	for count := range 20 {
		g := kindsGraph()
		g.Rels = slices.Repeat([]impl.GraphRel{{Kind: 2, Left: 12, Right: 3}}, count)
		wantOkGraph(t, g, count >= 1 && count <= impl.ProgMaxRels)
	}
	wantOkGraph(t, impl.Graph{}, false)
	wantOkGraph(t, impl.Graph{Vars: 1}, false)
	wantOkGraph(t, impl.Graph{Vars: 1, Rels: []impl.GraphRel{{Kind: 1}}}, false)
	wantOkGraph(t, impl.Graph{Vars: 1, Nodes: []impl.GraphNode{varNode(0)}}, false)
}

// oddNumbers are what a field may be changed to, around a place and around the limits.
func oddNumbers(around ...int) []int {
	out := []int{math.MinInt, math.MinInt32, -120, -13, -1, 0, 1, 2, 3, 4, 5, 6, 7, 8, 9, 10, 11, 12, 13, 14, 15, 119, 120, 121, math.MaxInt32, math.MaxInt}
	for _, number := range around {
		out = append(out, number-1, number, number+1)
	}
	return out
}

func oddTexts() []string {
	return []string{"", "1", "2.50e1", "2.5e1", "x", "n0", "-1", "01", "1.", "1e401", " 1", "1 ", "\x00", "var", strings.Repeat("1", 60), strings.Repeat("1", 61), strings.Repeat("9", 100000)}
}

// Each field of each node, changed by itself, and what else it could be beside that.
func TestGraphsByEachField(t *testing.T) {
	base := kindsGraph()
	count := map[bool]int{}
	try := func(at int, change func(*impl.GraphNode)) {
		g := copiedGraph(base)
		change(&g.Nodes[at])
		count[checkOkGraph(t, g)]++
	}
	for at := range base.Nodes {
		for _, number := range oddNumbers(at, len(base.Nodes)) {
			try(at, func(node *impl.GraphNode) { node.Kind = number })
			try(at, func(node *impl.GraphNode) { node.A = number })
			try(at, func(node *impl.GraphNode) { node.B = number })
			try(at, func(node *impl.GraphNode) { node.N = number })
			for kind := range 15 {
				try(at, func(node *impl.GraphNode) { *node = impl.GraphNode{Kind: kind, A: number} })
				try(at, func(node *impl.GraphNode) { *node = impl.GraphNode{Kind: kind, B: number} })
				try(at, func(node *impl.GraphNode) { *node = impl.GraphNode{Kind: kind, N: number} })
				try(at, func(node *impl.GraphNode) { *node = impl.GraphNode{Kind: kind, A: number, N: 1, Text: "1"} })
			}
		}
		for _, text := range oddTexts() {
			try(at, func(node *impl.GraphNode) { node.Text = text })
			for kind := range 15 {
				try(at, func(node *impl.GraphNode) { *node = impl.GraphNode{Kind: kind, Text: text} })
				try(at, func(node *impl.GraphNode) { *node = impl.GraphNode{Kind: kind, N: 1, Text: text} })
			}
		}
	}
	if count[true] < 500 || count[false] < 5000 {
		t.Errorf("only so many of each: %v", count)
	}
}

// By hand: what stands at a place of kindsGraph, and whether it may.
func TestNodesThatMayStand(t *testing.T) {
	for _, c := range []struct {
		node impl.GraphNode
		want bool
	}{
		// Parts ahead, at the node's own place, behind it, and nowhere.
		{impl.GraphNode{Kind: impl.TermNeg, A: 5}, true}, {impl.GraphNode{Kind: impl.TermNeg, A: 6}, false}, {impl.GraphNode{Kind: impl.TermNeg, A: 7}, false}, {impl.GraphNode{Kind: impl.TermNeg, A: 12}, false}, {impl.GraphNode{Kind: impl.TermNeg, A: 13}, false}, {impl.GraphNode{Kind: impl.TermNeg, A: -1}, false},
		{impl.GraphNode{Kind: impl.TermMul, A: 5, B: 0}, true}, {impl.GraphNode{Kind: impl.TermMul, A: 0, B: 5}, true}, {impl.GraphNode{Kind: impl.TermMul, A: 6, B: 0}, false}, {impl.GraphNode{Kind: impl.TermMul, A: 0, B: 6}, false}, {impl.GraphNode{Kind: impl.TermMul, A: 7, B: 5}, false}, {impl.GraphNode{Kind: impl.TermMul, A: 5, B: 7}, false}, {impl.GraphNode{Kind: impl.TermMul, A: -1, B: 5}, false}, {impl.GraphNode{Kind: impl.TermMul, A: 5, B: -1}, false},
		// A part where there is none.
		{impl.GraphNode{Kind: impl.TermNeg, A: 5, B: 1}, false}, {impl.GraphNode{Kind: impl.TermPow, A: 5, N: 2}, true}, {impl.GraphNode{Kind: impl.TermPow, A: 5, B: 1, N: 2}, false}, {impl.GraphNode{Kind: impl.TermRoot, A: 5, B: -1}, false}, {impl.GraphNode{Kind: impl.TermAbs, A: 5, B: 2}, false},
		{impl.GraphNode{Kind: impl.TermNumber, Text: "1"}, true}, {impl.GraphNode{Kind: impl.TermNumber, A: 1, Text: "1"}, false}, {impl.GraphNode{Kind: impl.TermNumber, B: 1, Text: "1"}, false}, {impl.GraphNode{Kind: impl.TermNumber, A: -1, Text: "1"}, false}, {impl.GraphNode{Kind: impl.TermNumber, N: 1, Text: "1"}, false},
		// Kinds that may not stand there, or are none.
		{impl.GraphNode{Kind: impl.TermName, N: 6}, false}, {impl.GraphNode{Kind: impl.TermName, Text: "x"}, false}, {impl.GraphNode{Kind: impl.TermName, N: 2}, false}, {impl.GraphNode{Kind: impl.TermCall, A: 1, N: 1, Text: "f"}, false}, {impl.GraphNode{Kind: impl.TermCall, A: 1, B: 2, N: 2, Text: "f"}, false}, {impl.GraphNode{Kind: impl.TermCall, N: 6, Text: "f"}, false}, {impl.GraphNode{}, false}, {impl.GraphNode{Kind: -1}, false}, {impl.GraphNode{Kind: 14}, false},
		// Powers and texts.
		{impl.GraphNode{Kind: impl.TermPow, A: 5}, true}, {impl.GraphNode{Kind: impl.TermPow, A: 5, N: 8}, true}, {impl.GraphNode{Kind: impl.TermPow, A: 5, N: 9}, false}, {impl.GraphNode{Kind: impl.TermPow, A: 5, N: -1}, false}, {impl.GraphNode{Kind: impl.TermPow, A: 5, N: 2, Text: "2"}, false}, {impl.GraphNode{Kind: impl.TermNeg, A: 5, N: 1}, false}, {impl.GraphNode{Kind: impl.TermMin, A: 5, Text: "min"}, false}, {impl.GraphNode{Kind: impl.TermNumber}, false}, {impl.GraphNode{Kind: impl.TermNumber, Text: "01"}, false}, {impl.GraphNode{Kind: impl.TermNumber, Text: "x"}, false},
		// What stands there already, ahead and behind, and what is nearly that.
		{impl.GraphNode{Kind: impl.TermNumber, Text: "2.50e1"}, false}, {impl.GraphNode{Kind: impl.TermNumber, Text: "2.5e1"}, true}, {impl.GraphNode{Kind: impl.TermNeg, A: 1}, false}, {impl.GraphNode{Kind: impl.TermNeg, A: 0}, true}, {impl.GraphNode{Kind: impl.TermAdd, A: 0, B: 3}, false}, {impl.GraphNode{Kind: impl.TermAdd, A: 3, B: 0}, true}, {impl.GraphNode{Kind: impl.TermSub, A: 0, B: 3}, true}, {impl.GraphNode{Kind: impl.TermSub, A: 4, B: 1}, false},
	} {
		g := kindsGraph()
		g.Nodes[6] = c.node
		wantOkGraph(t, g, c.want)
	}
	// Two that are alike, next to each other, and the first and the last of all.
	g := negated(119)
	g.Nodes[119] = g.Nodes[118]
	wantOkGraph(t, g, false)
	g.Nodes[119] = g.Nodes[1]
	wantOkGraph(t, g, false)
	g.Nodes[119] = impl.GraphNode{Kind: impl.TermAbs, A: 118}
	wantOkGraph(t, g, true)
}

func TestGraphsByTheirRelations(t *testing.T) {
	base := kindsGraph()
	for place := range base.Rels {
		for _, number := range oddNumbers(len(base.Nodes)) {
			kind, left, right := copiedGraph(base), copiedGraph(base), copiedGraph(base)
			kind.Rels[place].Kind, left.Rels[place].Left, right.Rels[place].Right = number, number, number
			wantOkGraph(t, kind, number >= 1 && number <= 3)
			wantOkGraph(t, left, number >= 0 && number < len(base.Nodes))
			wantOkGraph(t, right, number >= 0 && number < len(base.Nodes))
		}
	}
}

// changedGraph is a graph with one or two fields or nodes that are another, which is ok now and then.
func changedGraph(s *spread, g impl.Graph) impl.Graph {
	out := copiedGraph(g)
	for range 1 + s.next()%2 {
		number := pick(s, oddNumbers(len(out.Nodes)))
		at := int(s.next() % uint64(len(out.Nodes)))
		node := &out.Nodes[at]
		rel := &out.Rels[s.next()%uint64(len(out.Rels))]
		switch s.next() % 15 {
		case 0:
			out.Vars = number
		case 1:
			node.Kind = number
		case 2:
			node.A = number
		case 3:
			node.B = number
		case 4:
			node.N = number
		case 5:
			node.Text = pick(s, oddTexts())
		case 6:
			*node = pick(s, out.Nodes)
		case 7:
			rel.Kind = number
		case 8:
			rel.Left = number
		case 9:
			rel.Right = number
		case 10:
			out.Nodes = append(out.Nodes, someMade(s, len(out.Nodes)))
		case 11:
			out.Nodes = slices.Delete(out.Nodes, len(out.Nodes)-1, len(out.Nodes))
			return out
		default:
			*node = someMade(s, max(at, 1))
		}
	}
	return out
}

func TestGraphsThatAreChanged(t *testing.T) {
	t.Parallel()
	s := spread{210}
	count := map[bool]int{}
	for at := range 6000 {
		g := changedGraph(&s, someGraph(&s, []int{0, 2, 6, 30}[at%4]))
		count[checkOkGraph(t, g)]++
	}
	if count[true] < 1000 || count[false] < 2000 {
		t.Errorf("only so many of each: %v", count)
	}
}
