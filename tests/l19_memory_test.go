package tests

import (
	"slices"
	"testing"

	"loop.example/pinfold/impl"
)

// boxesBySlopes are all boxes that the four functions answer.
func boxesBySlopes(width int, g impl.Graph, b impl.Box) []impl.Box {
	var lefts []impl.Box
	for rel := -1; rel <= len(g.Rels); rel++ {
		impl.NewtonFits(width, g, b, rel)
		left, _ := impl.NewtonNarrow(width, g, b, rel)
		lefts = append(lefts, left)
	}
	round, _ := impl.NewtonRound(width, g, b)
	all, _, _ := impl.HullAll(width, g, b)
	return append(lefts, round, all)
}

// checkSlopesMemory asks all four functions twice, writes over the first answers, and then over what was handed in, and wants the second answers as they were.
func checkSlopesMemory(t *testing.T, width int, g impl.Graph, b impl.Box) {
	t.Helper()
	graph, cleanGraph := guardedGraph(g)
	box, cleanBox := guarded(b.Pairs...)
	for _, left := range boxesBySlopes(width, graph, box) {
		inkBox(left)
	}
	lefts := boxesBySlopes(width, graph, box)
	var kept []impl.Box
	for _, left := range lefts {
		kept = append(kept, cloned(left))
	}
	if !cleanGraph() || !cleanBox() {
		t.Fatalf("%d: %v or %v is written to", width, g, b)
	}
	inkGraph(t, graph)
	inkBox(box)
	for at, left := range lefts {
		if !slices.EqualFunc(lefts[at:], kept[at:], sameBox) {
			t.Fatalf("%d: what was answered of %q over %s has changed: %v", width, textOfGraph(g), boxText(width, b), lefts)
		}
		inkBox(left)
	}
}

// Answers are new memory, also where a box stays as it is; nothing is written into what was handed in, or behind its end, and nothing is kept.
func TestSlopesOverBoxesShareNoMemory(t *testing.T) {
	t.Parallel()
	s := spread{275}
	for at := range 250 {
		g := onlyKinds(&s, 1+at%6, []int{1, 3, 6, 14}[at%4], smoothKinds()...)
		switch {
		case at%3 == 0:
			g = withSum(&s, productsGraph(&s, 2+at%4), 0)
		case at%7 == 0:
			g = changedGraph(&s, g)
		case at%5 == 0:
			g = onlyKinds(&s, 1+at%6, 6, allKinds()...)
		}
		for _, width := range bothWidths() {
			b := someBoxOf(&s, width, max(0, min(g.Vars, 7)))
			checkSlopesMemory(t, width, g, b)
		}
	}
	for _, width := range bothWidths() {
		checkSlopesMemory(t, width, leastGraph(), boxAs(t, width, "0..1"))
		checkSlopesMemory(t, width, varsGraph(6, 6), boxAs(t, width, "0..1 0..1 0..1 0..1 0..1 0..1"))
		checkSlopesMemory(t, width, kindsGraph(), boxAs(t, width, "-1..1 3..9"))
		checkSlopesMemory(t, width, kindsGraph(), boxAs(t, width, "-inf..inf -inf..inf"))
		checkSlopesMemory(t, width, graphWith(t, "x y", "abs(x) = 1; x <= 3; 1 / x = y"), boxAs(t, width, "-1..1 3..9"))
		checkSlopesMemory(t, width, graphWith(t, "x y", "x * y = 12; x <= 3"), boxAs(t, width, "1..4 1..4"))
		checkSlopesMemory(t, width, graphWith(t, "x y", "x = y"), boxAs(t, width, "1 1"))
		checkSlopesMemory(t, width, impl.Graph{}, impl.Box{})
	}
}

// A box that was left, handed in again, is narrowed again and stays what it was.
func TestSlopesOfWhatWasLeft(t *testing.T) {
	for _, width := range bothWidths() {
		g := graphWith(t, "x y", "x^2 + y^2 = 4; x * y = 1; x + x + x + x >= 1")
		b := boxAs(t, width, "-4..4 -4..4")
		for range 8 {
			left, _, ok := impl.HullAll(width, g, b)
			if !ok {
				break
			}
			kept := cloned(left)
			inkBox(b)
			further, _, _ := impl.HullAll(width, g, left)
			inkBox(further)
			if !sameBox(left, kept) {
				t.Fatalf("%d: what was left is written to", width)
			}
			checkBySlopes(t, width, g, left)
			b = left
		}
	}
}
