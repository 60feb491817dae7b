package tests

import (
	"slices"
	"testing"

	"loop.example/pinfold/impl"
)

func graphInk() impl.GraphNode { return impl.GraphNode{Kind: 77, A: 78, B: 79, N: 80, Text: "ink"} }

func relInk() impl.GraphRel { return impl.GraphRel{Kind: 77, Left: 78, Right: 79} }

// guardedGraph is a graph with spare room behind its lists, and a way to see whether that or the graph was written to.
func guardedGraph(g impl.Graph) (impl.Graph, func() bool) {
	nodes := append(slices.Clone(g.Nodes), graphInk(), varNode(9), graphInk())
	rels := append(slices.Clone(g.Rels), relInk(), relInk())
	beforeNodes, beforeRels := slices.Clone(nodes), slices.Clone(rels)
	return impl.Graph{Vars: g.Vars, Nodes: nodes[:len(g.Nodes)], Rels: rels[:len(g.Rels)]}, func() bool {
		return slices.Equal(nodes, beforeNodes) && slices.Equal(rels, beforeRels)
	}
}

// Graphs are new memory, no two lists of one share any, and nothing is written into the problem.
func TestGraphsShareNoMemory(t *testing.T) {
	t.Parallel()
	s := spread{220}
	for at := range 200 {
		p := someProg(&s, []int{1, 4, 8}[at%3])
		want, wantCode := graphOf(p)
		handed, clean := guardedProg(p)
		impl.GraphSteps(handed)
		first, code := impl.GraphOf(handed)
		second, _ := impl.GraphOf(handed)
		if code != wantCode || !sameGraph(first, want) || !sameGraph(second, want) {
			t.Errorf("two graphs for %q: %v, %v", textOfProg(p), first, second)
		}
		scribble(first.Nodes, graphInk())
		if !slices.Equal(first.Rels, want.Rels) {
			t.Errorf("two lists of the graph of %q share memory", textOfProg(p))
		}
		scribble(first.Rels, relInk())
		if !sameGraph(second, want) {
			t.Errorf("two graphs of %q share memory", textOfProg(p))
		}
		if !clean() {
			t.Fatalf("%q is written to", textOfProg(p))
		}
		inkedAll(t, handed)
		if !sameGraph(second, want) {
			t.Errorf("the graph of %q changed with it", textOfProg(p))
		}
		// Nothing is kept of the problem that was written over.
		if again, _ := impl.GraphOf(p); !sameGraph(again, want) {
			t.Errorf("another graph for %q: %v", textOfProg(p), again)
		}
	}
}

// Terms are new memory, and nothing is written into the graph or the names.
func TestTermsOfGraphsShareNoMemory(t *testing.T) {
	s := spread{221}
	for at := range 80 {
		g := someGraph(&s, []int{0, 4, 12, 30}[at%4])
		if at%5 == 0 {
			g = changedGraph(&s, g)
		}
		handed, clean := guardedGraph(g)
		names, cleanNames := guardedNames(numbered("v", min(max(g.Vars, 0), 7)))
		checkOkGraph(t, handed)
		for place := range g.Nodes {
			want, _ := graphTermOf(g, place, names)
			first, _ := impl.GraphTerm(handed, place, names)
			second, _ := impl.GraphTerm(handed, place, names)
			scribble(first.Nodes, nodeInk())
			if !sameTerm(second, want) {
				t.Errorf("two terms of %v at %d share memory", g, place)
			}
			scribble(second.Nodes, nodeInk())
		}
		if !clean() || !cleanNames() {
			t.Fatalf("%v or its names are written to", g)
		}
		term, ok := impl.GraphTerm(handed, 0, names)
		want, wantOk := graphTermOf(g, 0, names)
		scribble(handed.Nodes, graphInk())
		scribble(names, "ink")
		if ok != wantOk || !sameTerm(term, want) {
			t.Errorf("a term of %v changed with it: %v", g, term)
		}
	}
}
