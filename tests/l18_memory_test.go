package tests

import (
	"slices"
	"testing"

	"loop.example/pinfold/impl"
)

// inkBox writes over a box that was answered.
func inkBox(b impl.Box) { scribble(b.Pairs, impl.Pair{Lo: -12345, Hi: 12345}) }

// checkHullMemory asks all five functions twice, writes over the first answers, and then over what was handed in, and wants the second answers as they were.
func checkHullMemory(t *testing.T, width int, g impl.Graph, b impl.Box) {
	t.Helper()
	graph, cleanGraph := guardedGraph(g)
	box, cleanBox := guarded(b.Pairs...)
	impl.HullRefutes(width, graph, box)
	impl.HullSure(width, graph, box)
	scribble(impl.HullForward(width, graph, box), spanOf(-77, 77))
	spans := impl.HullForward(width, graph, box)
	keptSpans := slices.Clone(spans)
	var lefts, kept []impl.Box
	for rel := -1; rel <= len(g.Rels); rel++ {
		first, _, _ := impl.HullRevise(width, graph, box, rel)
		second, _, _ := impl.HullRevise(width, graph, box, rel)
		inkBox(first)
		lefts, kept = append(lefts, second), append(kept, cloned(second))
	}
	first, _, _ := impl.HullRound(width, graph, box)
	second, _, _ := impl.HullRound(width, graph, box)
	inkBox(first)
	lefts, kept = append(lefts, second), append(kept, cloned(second))
	if !cleanGraph() || !cleanBox() {
		t.Fatalf("%d: %v or %v is written to", width, g, b)
	}
	inkGraph(t, graph)
	inkBox(box)
	if !slices.Equal(spans, keptSpans) || !slices.EqualFunc(lefts, kept, sameBox) {
		t.Errorf("%d: what was answered of %q over %s has changed: %v, %v", width, textOfGraph(g), boxText(width, b), spans, lefts)
	}
	for _, left := range lefts {
		inkBox(left)
	}
	if !slices.Equal(spans, keptSpans) {
		t.Errorf("%d: two answers of %q share memory", width, textOfGraph(g))
	}
}

// Answers are new memory, also where nothing was narrowed; nothing is written into what was handed in, or behind its end, and nothing is kept.
func TestHullSharesNoMemory(t *testing.T) {
	t.Parallel()
	s := spread{263}
	for at := range 300 {
		g := onlyKinds(&s, 1+at%6, []int{1, 3, 6, 14}[at%4], allKinds()...)
		if at%3 == 0 {
			g = productsGraph(&s, 2+at%4)
		}
		if at%7 == 0 {
			g = changedGraph(&s, g)
		}
		for _, width := range bothWidths() {
			b := someBoxOf(&s, width, max(0, min(g.Vars, 7)))
			checkHullMemory(t, width, g, b)
			if belongTogether(width, g, b) {
				checkOver(t, width, g, b)
			} else {
				checkNothingOver(t, width, g, b)
			}
		}
	}
	for _, width := range bothWidths() {
		checkHullMemory(t, width, leastGraph(), boxAs(t, width, "0..1"))
		checkHullMemory(t, width, varsGraph(6, 6), boxAs(t, width, "0..1 0..1 0..1 0..1 0..1 0..1"))
		checkHullMemory(t, width, kindsGraph(), boxAs(t, width, "-1..1 3..9"))
		checkHullMemory(t, width, kindsGraph(), boxAs(t, width, "-inf..inf -inf..inf"))
		checkHullMemory(t, width, impl.Graph{}, impl.Box{})
	}
}

// A box that was left, handed in again, is narrowed again and stays what it was.
func TestHullOfWhatWasLeft(t *testing.T) {
	for _, width := range bothWidths() {
		g := graphWith(t, "x y", "x - x >= 1; x + y = 5; y * x >= 2")
		b := boxAs(t, width, "0..10 -3..9")
		for range 6 {
			left, _, ok := impl.HullRound(width, g, b)
			if !ok {
				break
			}
			kept := cloned(left)
			further, _, _ := impl.HullRound(width, g, left)
			inkBox(further)
			if !sameBox(left, kept) {
				t.Fatalf("%d: what was left is written to", width)
			}
			inkBox(b)
			if !sameBox(left, kept) {
				t.Fatalf("%d: what was left is what was handed in", width)
			}
			checkOver(t, width, g, left)
			b = left
		}
	}
}
