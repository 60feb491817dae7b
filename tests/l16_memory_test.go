package tests

import (
	"math/big"
	"slices"
	"testing"

	"loop.example/pinfold/impl"
)

// guardedPoint is a point whose list and whose fractions' lists have spare room behind their ends, and a way to see whether that or they were written to.
func guardedPoint(point []impl.Frac) ([]impl.Frac, func() bool) {
	var room []impl.Frac
	var cleans []func() bool
	for _, f := range append(slices.Clone(point), impl.FracInt(77), impl.FracInt(78)) {
		guard, clean := guardedFrac(f)
		room = append(room, guard)
		cleans = append(cleans, clean)
	}
	before := slices.Clone(room)
	return room[:len(point)], func() bool {
		unclean := func(clean func() bool) bool { return !clean() }
		return slices.EqualFunc(room, before, sameFrac) && !slices.ContainsFunc(cleans, unclean)
	}
}

// copiedNodes share no memory with others.
func copiedNodes(nodes []impl.PointNode) []impl.PointNode {
	out := slices.Clone(nodes)
	for at, node := range nodes {
		out[at].Value.Top, out[at].Value.Bottom = slices.Clone(node.Value.Top), slices.Clone(node.Value.Bottom)
	}
	return out
}

// blotNodes writes over the nodes of an answer one by one, and sees that no other node changes; then over the list itself.
func blotNodes(t *testing.T, nodes []impl.PointNode) {
	t.Helper()
	before := copiedNodes(nodes)
	for at := range nodes {
		blot(t, nodes[at].Value)
		for other := at + 1; other < len(nodes); other++ {
			if !samePointNode(nodes[other], before[other]) {
				t.Fatalf("nodes %d and %d share memory: %q", at, other, nodesText(before))
			}
		}
	}
	scribble(nodes, impl.PointNode{State: 77, Value: impl.FracInt(77)})
}

// checkOwnMemory asks for a point twice, and writes over the first answer, and then over what was handed in.
func checkOwnMemory(t *testing.T, g impl.Graph, point []impl.Frac) {
	t.Helper()
	wanted := copiedNodes(impl.PointEval(g, point))
	holds := impl.PointHolds(g, point)
	handed, cleanGraph := guardedGraph(g)
	at, cleanPoint := guardedPoint(point)
	first, second := impl.PointEval(handed, at), impl.PointEval(handed, at)
	if impl.PointHolds(handed, at) != holds || !slices.EqualFunc(first, wanted, samePointNode) {
		t.Errorf("two answers for %q", impl.GraphText(g))
	}
	blotNodes(t, first)
	if !slices.EqualFunc(second, wanted, samePointNode) {
		t.Errorf("two answers for %q share memory", impl.GraphText(g))
	}
	if !cleanGraph() || !cleanPoint() {
		t.Errorf("%q or its point is written to", impl.GraphText(g))
	}
	for _, f := range at {
		scribble(f.Top, natInk)
		scribble(f.Bottom, natInk)
	}
	scribble(at, impl.FracInt(77))
	scribble(handed.Nodes, graphInk())
	scribble(handed.Rels, relInk())
	if !slices.EqualFunc(second, wanted, samePointNode) {
		t.Errorf("an answer for %q changed with what was handed in", impl.GraphText(g))
	}
	blotNodes(t, second)
	// Nothing is kept of what was written over.
	if again := impl.PointEval(g, point); !slices.EqualFunc(again, wanted, samePointNode) || impl.PointHolds(g, point) != holds {
		t.Errorf("another answer for %q: %q", impl.GraphText(g), nodesText(again))
	}
}

// Nodes that are what another one is, or what the point says, have memory of their own.
func TestPointsShareNoMemory(t *testing.T) {
	for _, lines := range [][]string{
		{"var x", "x = x"}, {"var x", "var y", "min(x, y) = max(x, y)"}, {"var x", "var y", "min(y, x) = max(x, x)"}, {"var x", "x^1 = abs(x)"}, {"var x", "-(-x) = x + 0"}, {"var x", "x * 1 = x / 1"}, {"var x", "sqrt(x^2) = x - 0"}, {"var x", "max(1, 1.0) = min(1e0, 1.00)"}, {"var x", "x^0 = 1"}, {"var x", "1 / (x - x) = sqrt(2)"},
	} {
		g := graphOfLines(t, lines...)
		for _, r := range append(shortRats(), rat(moved(mostNat(), -1), mostNat())) {
			checkOwnMemory(t, g, fracsOf(slices.Repeat([]*big.Rat{r}, g.Vars)))
			checkOwnMemory(t, g, fracsOf([]*big.Rat{smallRat(1, 1), r}[:g.Vars]))
		}
	}
	s := spread{234}
	for at := range 150 {
		g := someGraph(&s, []int{0, 4, 12, 30}[at%4])
		checkOwnMemory(t, g, fracsOf(somePoint(&s, g.Vars)))
	}
	// What is answered with nothing writes nothing, too.
	for _, wrong := range wrongFracs() {
		checkOwnMemory(t, kindsGraph(), []impl.Frac{impl.FracInt(1), wrong})
	}
	checkOwnMemory(t, impl.Graph{Vars: 1}, []impl.Frac{impl.FracInt(1)})
}

// One fraction may stand for all variables, and one list above and below.
func TestPointsOfOneList(t *testing.T) {
	list, clean := guardedNat([]int{1})
	f := impl.Frac{Below: true, Top: list, Bottom: list}
	g := graphOfLines(t, "var x", "var y", "min(x, y) = max(y, x)")
	nodes := impl.PointEval(g, []impl.Frac{f, f})
	if text := nodesText(nodes); text != "-1 -1 -1 -1" || impl.PointHolds(g, []impl.Frac{f, f}) != 1 {
		t.Errorf("at -1, twice: %q", text)
	}
	blotNodes(t, nodes)
	if !clean() {
		t.Error("the one list is written to")
	}
}
