package tests

import (
	"slices"
	"testing"

	"loop.example/pinfold/impl"
)

// inkGraph writes over both lists of a graph, their spare room too, and sees that the one does not reach into the other.
func inkGraph(t *testing.T, g impl.Graph) {
	t.Helper()
	before := slices.Clone(g.Rels)
	scribble(g.Nodes, graphInk())
	if !slices.Equal(g.Rels, before) {
		t.Errorf("two lists of a graph share memory: %v", g.Rels)
	}
	scribble(g.Rels, relInk())
}

// checkSlopeMemory asks for a slope twice, and writes over the first answer, and then over what was handed in.
func checkSlopeMemory(t *testing.T, g impl.Graph, at int, v int) {
	t.Helper()
	want, wantPlace, wantOk := slopeMade(g, at, v)
	want = copiedGraph(want)
	handed, clean := guardedGraph(g)
	impl.SlopeSmooth(handed, at)
	first, _, _ := impl.SlopeMake(handed, at, v)
	second, place, ok := impl.SlopeMake(handed, at, v)
	inkGraph(t, first)
	if !clean() {
		t.Fatalf("%v is written to", g)
	}
	inkGraph(t, handed)
	if ok != wantOk || place != wantPlace || !sameGraph(second, want) {
		t.Errorf("SlopeMake of %v, %d, %d: %v changed", g, at, v, second)
	}
	inkGraph(t, second)
	// Nothing is kept of what was written over.
	checkSlope(t, g, at, v)
}

// checkSlopeRelMemory does so with a relation.
func checkSlopeRelMemory(t *testing.T, g impl.Graph, rel int) {
	t.Helper()
	want, wantAt, wantSlopes, wantOk := slopesOfRel(g, rel)
	want = copiedGraph(want)
	handed, clean := guardedGraph(g)
	first, _, firstSlopes, _ := impl.SlopeRel(handed, rel)
	second, at, slopes, ok := impl.SlopeRel(handed, rel)
	inkGraph(t, first)
	if !slices.Equal(firstSlopes, wantSlopes) {
		t.Errorf("SlopeRel of %v, %d: slopes %v share memory with the graph", g, rel, firstSlopes)
	}
	scribble(firstSlopes, 77)
	if !clean() {
		t.Fatalf("%v is written to", g)
	}
	inkGraph(t, handed)
	if ok != wantOk || at != wantAt || !slices.Equal(slopes, wantSlopes) || !sameGraph(second, want) {
		t.Errorf("SlopeRel of %v, %d: %v, %v changed", g, rel, second, slopes)
	}
	scribble(slopes, 78)
	inkGraph(t, second)
	checkSlopeRel(t, g, rel)
}

// Graphs with slopes are new memory, also where nothing is laid down; nothing is written into the one that was handed in, or behind its end.
func TestSlopesShareNoMemory(t *testing.T) {
	t.Parallel()
	full := graphWith(t, "x", "x - x = 0; 1 - 1 = x; x = x")
	graphs := append(smoothGraphs(t), full, paddedBehind(full, impl.GraphMaxNodes-len(full.Nodes)), paddedBehind(leastGraph(), 118), paddedBehind(leastGraph(), 119), kindsGraph(), impl.Graph{}, impl.Graph{Vars: 1})
	s := spread{248}
	for at := range 120 {
		g := onlyKinds(&s, 1+at%6, []int{1, 4, 12, 30}[at%4], smoothKinds()...)
		if at%5 == 0 {
			g = changedGraph(&s, g)
		}
		graphs = append(graphs, g)
	}
	for _, g := range graphs {
		for at := -1; at <= len(g.Nodes); at += 1 + len(g.Nodes)/8 {
			checkSlopeMemory(t, g, at, 0)
			checkSlopeMemory(t, g, at, max(0, min(g.Vars, 7)-1))
		}
		for rel := -1; rel <= len(g.Rels); rel++ {
			checkSlopeRelMemory(t, g, rel)
		}
	}
}

// An answer that is handed in again and goes on does not change.
func TestSlopesOfSlopesShareNoMemory(t *testing.T) {
	g := graphWith(t, "x y", "x^3 / y = 7")
	first, at, slopes, ok := impl.SlopeRel(g, 0)
	if !ok {
		t.Fatal("no slopes")
	}
	kept, keptSlopes := copiedGraph(first), slices.Clone(slopes)
	for v := range g.Vars {
		for _, place := range append(slopes, at) {
			further, _, ok := impl.SlopeMake(first, place, v)
			other, _, _ := impl.SlopeMake(first, place, 1-v)
			if !ok {
				t.Errorf("%d by %d: no slope", place, v)
			}
			before := copiedGraph(other)
			inkGraph(t, further)
			if !sameGraph(other, before) {
				t.Errorf("%d: two slopes share memory", place)
			}
			inkGraph(t, other)
			if !sameGraph(first, kept) || !slices.Equal(slopes, keptSlopes) {
				t.Fatalf("%d by %d: what was handed in has changed", place, v)
			}
		}
	}
}
