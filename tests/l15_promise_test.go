package tests

import (
	"slices"
	"testing"

	"loop.example/pinfold/impl"
)

// checkSameGraph wants one graph, one code and one number of steps of two problems.
func checkSameGraph(t *testing.T, what string, p impl.Prog, other impl.Prog) {
	t.Helper()
	g, code := impl.GraphOf(p)
	made, madeCode := impl.GraphOf(other)
	if code != madeCode || !sameGraph(g, made) || impl.GraphSteps(p) != impl.GraphSteps(other) {
		t.Errorf("%s: %q has %q, but %q %q", what, textOfProg(p), impl.GraphText(g), textOfProg(other), impl.GraphText(made))
	}
}

// Promise 48: the graph of an ok problem is that of the problem with a body, or all bodies, put in, wherever these are true, and the graph is there.
func TestUnfoldedIsPutIn(t *testing.T) {
	t.Parallel()
	s := spread{214}
	there, flats := 0, 0
	for at := range 300 {
		p := someProg(&s, []int{2, 5, 9, 14}[at%4])
		if _, code := impl.GraphOf(p); code == 0 {
			there++
		}
		for _, name := range defNames(p) {
			if inlined, ok := impl.ProgInline(p, name); ok {
				checkSameGraph(t, name, p, inlined)
			}
		}
		if flat, ok := impl.ProgFlat(p); ok && len(p.Defs) > 0 {
			flats++
			checkSameGraph(t, "flat", p, flat)
		}
	}
	if there < 200 || flats < 150 {
		t.Errorf("only %d graphs, %d flat problems", there, flats)
	}
}

// Promise 48, one definition after the other, in all orders.
func TestUnfoldedInAllOrders(t *testing.T) {
	p := mustProg(t, textWith("def k(a, b) = 1 / b", "def f(a) = g(a + 1, c) - k(a, c)", "def g(a, b) = a * b + k(a / 0, a)", "def c = 2 + h", "def h = sqrt(3)", "var y", "var x", "f(x) <= k(9 + y, f(x))", "g(h, c) = g(c, h)"))
	permuted(defNames(p), 0, func(order []string) {
		left := p
		for _, name := range order {
			inlined, ok := impl.ProgInline(left, name)
			if !ok {
				t.Fatalf("%q does not fit into %q", name, textOfProg(left))
			}
			checkSameGraph(t, name, p, inlined)
			left = inlined
		}
	})
}

// Promise 48: a variable's name does not bear on the graph.
func TestNamesDoNotBearOnGraphs(t *testing.T) {
	t.Parallel()
	s := spread{215}
	for range 150 {
		p := someProg(&s, 8)
		for _, old := range p.Vars {
			for _, name := range []string{"w", "n0", "c", "abcdefgh"} {
				if renamed, ok := impl.ProgRename(p, old, name); ok {
					checkSameGraph(t, old+" "+name, p, renamed)
				}
			}
		}
		// All of them at once, the other way round.
		other := copied(p)
		for at, name := range p.Vars {
			to := p.Vars[len(p.Vars)-1-at]
			other.Vars[at] = to
			for place, rel := range p.Rels {
				renameIn(other.Rels[place].Left, rel.Left, name, to)
				renameIn(other.Rels[place].Right, rel.Right, name, to)
			}
		}
		checkSameGraph(t, "the other way round", p, other)
	}
}

// renameIn gives the names of a copy of a term another one.
func renameIn(made impl.Term, from impl.Term, old string, name string) {
	for at, node := range from.Nodes {
		if node == nameNode(old) {
			made.Nodes[at].Text = name
		}
	}
}

// Promise 48: no two nodes are alike; what is there is ok.
func TestNoTwoNodesAreAlike(t *testing.T) {
	t.Parallel()
	s := spread{216}
	for at := range 300 {
		g, code := impl.GraphOf(someProg(&s, []int{3, 6, 12}[at%3]))
		for place, node := range g.Nodes {
			if slices.Index(g.Nodes, node) != place {
				t.Errorf("%q: %d is alike to another one", impl.GraphText(g), place)
			}
		}
		if code == 0 && !impl.GraphOk(g) {
			t.Errorf("%v is not ok", g)
		}
	}
}

// checkSides wants the sides of a flat problem of a graph's relations, and their nodes counted.
func checkSides(t *testing.T, p impl.Prog, g impl.Graph, flat impl.Prog) {
	t.Helper()
	steps := 0
	for at, rel := range flat.Rels {
		left, okLeft := impl.GraphTerm(g, g.Rels[at].Left, p.Vars)
		right, okRight := impl.GraphTerm(g, g.Rels[at].Right, p.Vars)
		if !okLeft || !okRight || !sameTerm(left, rel.Left) || !sameTerm(right, rel.Right) || g.Rels[at].Kind != rel.Kind {
			t.Errorf("relation %d of %q: %v, %v, not %v", at, textOfProg(p), left, right, rel)
		}
		steps += len(rel.Left.Nodes) + len(rel.Right.Nodes)
	}
	if got := impl.GraphSteps(p); got != steps || len(g.Rels) != len(flat.Rels) || g.Vars != len(p.Vars) {
		t.Errorf("GraphSteps of %q: %d, not %d; %v", textOfProg(p), got, steps, g)
	}
}

// Promise 49: the sides of a graph's relations stand for the sides of the problem with all bodies put in, wherever that is there; GraphSteps is how many nodes these have together.
func TestSidesOfGraphsAreThoseOfFlatProblems(t *testing.T) {
	t.Parallel()
	s := spread{217}
	both := 0
	for at := range 500 {
		p := someProg(&s, []int{2, 5, 9, 14}[at%4])
		flat, ok := impl.ProgFlat(p)
		g, code := impl.GraphOf(p)
		if ok && code == 0 {
			both++
			checkSides(t, p, g, flat)
		}
	}
	if both < 250 {
		t.Errorf("only %d flat problems", both)
	}
}

// Promise 49, where ProgFlat is not there: sides of which each by itself has room in a term, beside great bodies that are dropped.
func TestSidesOfGraphsWithoutFlatProblems(t *testing.T) {
	big := "def b = " + long(60, "1")
	p := mustProg(t, textWith(big, "def k(a, c) = c", "var x", "k(b + b, x^2) = -x", "b <= x"))
	if _, ok := impl.ProgFlat(p); ok {
		t.Fatal("the test itself has a problem that fits")
	}
	g, code := checkGraph(t, p)
	if code != 0 {
		t.Fatalf("code %d", code)
	}
	checkSides(t, p, g, mustProg(t, textWith("var x", "x^2 = -x", long(60, "1")+" <= x")))
}
