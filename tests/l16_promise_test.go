package tests

import (
	"math/big"
	"slices"
	"testing"

	"loop.example/pinfold/impl"
)

// valuesOf are the fractions of a point by the names of the variables.
func valuesOf(names []string, point []*big.Rat) map[string]*big.Rat {
	values := map[string]*big.Rat{}
	for at, name := range names {
		values[name] = point[at]
	}
	return values
}

// checkByTerms holds the sides of a graph's relations against what the sides of the problem come to, all bodies put in.
func checkByTerms(t *testing.T, p impl.Prog, g impl.Graph, point []*big.Rat) {
	t.Helper()
	nodes := impl.PointEval(g, fracsOf(point))
	if len(nodes) != len(g.Nodes) {
		t.Fatalf("PointEval of %q at %s: %d nodes", textOfProg(p), pointAs(point), len(nodes))
	}
	values := valuesOf(p.Vars, point)
	for at, rel := range p.Rels {
		left, _ := branchOf(rel.Left)
		right, _ := branchOf(rel.Right)
		if want := left.whole(p).at(values); !isOutcome(nodes[g.Rels[at].Left], want) {
			t.Errorf("the left side of %d of %q at %s: %v, not %v", at, textOfProg(p), pointAs(point), nodes[g.Rels[at].Left], want)
		}
		if want := right.whole(p).at(values); !isOutcome(nodes[g.Rels[at].Right], want) {
			t.Errorf("the right side of %d of %q at %s: %v, not %v", at, textOfProg(p), pointAs(point), nodes[g.Rels[at].Right], want)
		}
	}
}

// Promise 50, its first part, also where ProgFlat has no room; and the same with a body, or all bodies, put in.
func TestPointsByTheTerms(t *testing.T) {
	t.Parallel()
	s := spread{231}
	there, flats := 0, 0
	for at := range 400 {
		p := someProg(&s, []int{2, 5, 9, 14}[at%4])
		g, code := impl.GraphOf(p)
		if code != 0 || wantedSteps(p) > 3000 {
			continue
		}
		there++
		point := somePoint(&s, g.Vars)
		nodes, holds := checkPoint(t, g, point)
		checkByTerms(t, p, g, point)
		if flat, ok := impl.ProgFlat(p); ok {
			flats++
			checkSamePoint(t, flat, point, nodes, holds)
		}
		for _, name := range defNames(p) {
			if inlined, ok := impl.ProgInline(p, name); ok {
				checkSamePoint(t, inlined, point, nodes, holds)
			}
		}
	}
	if there < 200 || flats < 100 {
		t.Errorf("only %d graphs, %d flat problems", there, flats)
	}
}

func samePointNode(a impl.PointNode, b impl.PointNode) bool {
	return a.State == b.State && sameFrac(a.Value, b.Value)
}

// checkSamePoint wants the same nodes and the same answer of another problem.
func checkSamePoint(t *testing.T, p impl.Prog, point []*big.Rat, nodes []impl.PointNode, holds int) {
	t.Helper()
	g, code := impl.GraphOf(p)
	got := impl.PointEval(g, fracsOf(point))
	if code != 0 || !slices.EqualFunc(got, nodes, samePointNode) {
		t.Errorf("%q at %s: %q, not %q", textOfProg(p), pointAs(point), nodesText(got), nodesText(nodes))
	}
	if gotHolds := impl.PointHolds(g, fracsOf(point)); gotHolds != holds {
		t.Errorf("%q at %s holds: %d, not %d", textOfProg(p), pointAs(point), gotHolds, holds)
	}
}

// Promise 50, by hand: problems with bodies put in, and the same with their definitions.
func TestPointsOfProblemsWithDefinitions(t *testing.T) {
	for _, c := range []struct {
		with, without []string
		point         string
		holds         int
	}{
		{[]string{"def sq(a) = a^2", "var x", "var y", "sq(x) + sq(y) = sq(1)"}, []string{"var x", "var y", "x^2 + y^2 = 1^2"}, "3/5 -4/5", 1},
		{[]string{"def h = 0.5", "def f(a, b) = a / b", "var x", "f(x, f(h, x)) = f(x^2, h)"}, []string{"var x", "x / (0.5 / x) = x^2 / 0.5"}, "-7/3", 1},
		{[]string{"def h = 0.5", "def f(a, b) = a / b", "var x", "f(x, f(h, x)) = f(x^2, h)"}, []string{"var x", "x / (0.5 / x) = x^2 / 0.5"}, "0", -1},
		// What a body drops is not there, so it is neither none nor hidden.
		{[]string{"def k(a, b) = b", "var x", "k(1 / 0, x) = k(sqrt(2), 3)"}, []string{"var x", "x = 3"}, "3", 1},
		{[]string{"def k(a, b) = b", "var x", "k(x, 1 / 0) = 3"}, []string{"var x", "1 / 0 = 3"}, "3", -1},
		{[]string{"def k(a, b) = b", "var x", "k(3, sqrt(x)) >= 0"}, []string{"var x", "sqrt(x) >= 0"}, "3", 0},
		// A definition that no relation uses.
		{[]string{"def c = 1 / 0", "def d(a) = sqrt(-a)", "var x", "x = 1"}, []string{"var x", "x = 1"}, "1", 1},
		{[]string{"def g(a) = a + a", "var x", "g(g(g(x))) = 8 * x"}, []string{"var x", "x + x + (x + x) + (x + x + (x + x)) = 8 * x"}, "5/9", 1},
	} {
		point := ratsOf(t, c.point)
		p := mustProg(t, textWith(c.with...))
		g := graphOfLines(t, c.with...)
		nodes, holds := checkPoint(t, g, point)
		checkByTerms(t, p, g, point)
		checkSamePoint(t, mustProg(t, textWith(c.without...)), point, nodes, holds)
		if holds != c.holds {
			t.Errorf("%q at %s: %d", c.with, c.point, holds)
		}
	}
}

// Promise 50, its second part, by what both functions tell, whatever they tell: a solution is a point at which every node has a value and every relation holds.
func TestSolutionsHaveValuesAndHold(t *testing.T) {
	t.Parallel()
	s := spread{232}
	seen := map[int]int{}
	for at := range 600 {
		g := someGraph(&s, []int{0, 1, 3, 8}[at%4])
		// Few relations, so that they hold now and then.
		g.Rels = g.Rels[:min(len(g.Rels), 1+at%3)]
		point := fracsOf(somePoint(&s, g.Vars))
		nodes := impl.PointEval(g, point)
		isSolution := true
		for _, node := range nodes {
			isSolution = isSolution && node.State == impl.PointValue
		}
		for _, rel := range g.Rels {
			isSolution = isSolution && impl.RelHolds(rel.Kind, nodes[rel.Left].Value, nodes[rel.Right].Value)
		}
		holds := impl.PointHolds(g, point)
		if (holds == 1) != isSolution {
			t.Errorf("%q: %s, but %d", textOfGraph(g), nodesText(nodes), holds)
		}
		seen[holds]++
	}
	if seen[1] < 60 || seen[-1] < 60 || seen[0] < 10 {
		t.Errorf("only so many of each: %v", seen)
	}
}

// turnedList is a list from a place on, and then what stands ahead of it.
func turnedList[T any](list []T, n int) []T {
	return append(slices.Clone(list[n:]), list[:n]...)
}

// Promise 50, its third part: variables in another order, and the point's fractions likewise; and variables renamed.
func TestPointsWithVariablesInAnotherOrder(t *testing.T) {
	t.Parallel()
	s := spread{233}
	there := 0
	for at := range 200 {
		p := someProg(&s, []int{2, 5, 9}[at%3])
		g, code := impl.GraphOf(p)
		if code != 0 {
			continue
		}
		there++
		point := somePoint(&s, g.Vars)
		nodes, holds := checkPoint(t, g, point)
		for n := range p.Vars {
			shifted, ok := impl.ProgShift(p, n)
			if !ok {
				t.Fatalf("ProgShift of %q, %d", textOfProg(p), n)
			}
			// The variables' own nodes stand in the other order, all others where they stood.
			checkSamePoint(t, shifted, turnedList(point, n), append(turnedList(nodes[:g.Vars], n), nodes[g.Vars:]...), holds)
		}
		for _, old := range p.Vars {
			for _, name := range []string{"w", "n0", "abcdefgh"} {
				if renamed, ok := impl.ProgRename(p, old, name); ok {
					checkSamePoint(t, renamed, point, nodes, holds)
				}
			}
		}
	}
	if there < 100 {
		t.Errorf("only %d graphs", there)
	}
}

// In all orders, not only turned; with the fractions as they were it is another point.
func TestPointsWithVariablesInAllOrders(t *testing.T) {
	lines := []string{"x - y <= z / y", "x * sqrt(z) = -2", "max(x, y) >= y"}
	values := map[string]string{"x": "-1", "y": "3", "z": "4"}
	permuted([]string{"x", "y", "z"}, 0, func(order []string) {
		var vars []string
		point := ""
		for _, name := range order {
			vars = append(vars, "var "+name)
			point += values[name] + " "
		}
		g := graphOfLines(t, append(vars, lines...)...)
		if _, holds := checkPoint(t, g, ratsOf(t, point)); holds != 1 {
			t.Errorf("%v: %d", order, holds)
		}
		_, holds := checkPoint(t, g, ratsOf(t, "-1 3 4"))
		if isSame := slices.Equal(order, []string{"x", "y", "z"}); (holds == 1) != isSame {
			t.Errorf("%v at the fractions as they were: %d", order, holds)
		}
	})
}
