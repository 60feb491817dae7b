package tests

import (
	"math"
	"testing"

	"loop.example/pinfold/impl"
)

// checkNoGraph asks both functions for a problem that is not ok.
func checkNoGraph(t *testing.T, p impl.Prog) {
	t.Helper()
	if codeOfProg(p) == 0 {
		t.Fatalf("the test itself has an ok problem: %v", p)
	}
	if steps := impl.GraphSteps(p); steps != 0 {
		t.Errorf("GraphSteps of %v: %d", p, steps)
	}
	if g, code := impl.GraphOf(p); code != impl.GraphBad || !noGraph(g) {
		t.Errorf("GraphOf of %v: %v, code %d", p, g, code)
	}
}

// In each way that ProgCode tells.
func TestGraphsOfWrongProblems(t *testing.T) {
	base := baseProg(t)
	seen := map[int]int{}
	for _, list := range [][]spoil{spoils(), nameSpoils(), relSpoils(), lesses()} {
		for _, way := range list {
			p := spoiled(base, way)
			seen[codeOfProg(p)]++
			checkNoGraph(t, p)
		}
	}
	for code := impl.LangBadForm; code <= impl.LangNothing; code++ {
		if seen[code] == 0 {
			t.Errorf("no problem of code %d", code)
		}
	}
	checkNoGraph(t, impl.Prog{})
	checkNoGraph(t, impl.Prog{Vars: base.Vars})
	checkNoGraph(t, impl.Prog{Rels: base.Rels})
	for at, wrong := range wrongTerms() {
		p, q := copied(base), copied(base)
		p.Defs[at%len(p.Defs)].Body = wrong
		checkNoGraph(t, p)
		q.Rels[at%len(q.Rels)].Right = wrong
		checkNoGraph(t, q)
	}
	// Definitions that use themselves, though no relation uses them.
	for _, lines := range [][]string{{"def l = l"}, {"def l(a) = l(l(a))"}, {"def l1(a) = l2(a)", "def l2(a) = k(l1(a))", "def k(a) = 1"}} {
		p := mustProg(t, textWith("var x", "x = 1"))
		for _, line := range lines {
			more, code := addLine(p, line)
			if code != 0 {
				t.Fatalf("%q has code %d", line, code)
			}
			p = more
		}
		checkNoGraph(t, p)
	}
}

func TestGraphsOfManyWrongProblems(t *testing.T) {
	t.Parallel()
	s := spread{218}
	wrong := 0
	for range 800 {
		p := someProg(&s, 6)
		for range 1 + s.next()%3 {
			change(&s, &p)
		}
		if codeOfProg(p) != 0 {
			wrong++
			checkNoGraph(t, p)
		} else {
			checkGraph(t, p)
		}
	}
	if wrong < 200 {
		t.Errorf("only %d wrong problems", wrong)
	}
}

// A graph that is not ok has no text and no terms.
func TestTextsAndTermsOfWrongGraphs(t *testing.T) {
	wide, deep := negated(120), negated(100000)
	graphs := []impl.Graph{{}, {Vars: 1}, {Vars: math.MaxInt}, {Vars: math.MinInt}, wide, deep, varsGraph(0, 0), varsGraph(0, 1), varsGraph(7, 7), varsGraph(1, 2), varsGraph(2, 1)}
	for at := range kindsGraph().Nodes {
		for _, node := range []impl.GraphNode{{}, {Kind: impl.TermCall, N: 6, Text: "f"}, {Kind: impl.TermCall, N: -1, Text: "f"}, {Kind: impl.TermNeg, A: at}, {Kind: impl.TermAdd, A: -1}, {Kind: impl.TermAdd, B: math.MaxInt}, {Kind: impl.TermName, N: 7}, {Kind: impl.TermName, N: -1}, {Kind: impl.TermNumber, Text: "x"}, {Kind: math.MinInt}} {
			g := kindsGraph()
			g.Nodes[at] = node
			graphs = append(graphs, g)
		}
	}
	for _, rel := range []impl.GraphRel{{}, {Kind: 4}, {Kind: 1, Left: -1}, {Kind: 1, Right: 13}, {Kind: -1}, {Kind: 1, Left: math.MaxInt}} {
		g := kindsGraph()
		g.Rels[1] = rel
		graphs = append(graphs, g)
	}
	for _, g := range graphs {
		wantOkGraph(t, g, false)
		for _, at := range []int{-1, 0, 1, len(g.Nodes) - 1, len(g.Nodes)} {
			wantNoTerm(t, g, at, []string{"u", "v"})
			wantNoTerm(t, g, at, []string{"u"})
			wantNoTerm(t, g, at, nil)
		}
	}
	s := spread{219}
	wrong := 0
	for range 1000 {
		g := changedGraph(&s, someGraph(&s, 8))
		if isGraph(g) {
			continue
		}
		wrong++
		for at := range g.Nodes {
			wantNoTerm(t, g, at, numbered("v", min(max(g.Vars, 0), 7)))
		}
	}
	if wrong < 400 {
		t.Errorf("only %d wrong graphs", wrong)
	}
}
