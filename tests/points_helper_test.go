package tests

import (
	"math/big"
	"slices"
	"strings"
	"testing"

	"loop.example/pinfold/impl"
)

// Points are held here against math/big, the document's sentences on a node's state being gone through one after the other.

// outcome is what a node or a term comes to at a point: its state, and its value where it has one.
type outcome struct {
	state int
	value *big.Rat
}

func isState(state int) func(outcome) bool {
	return func(o outcome) bool { return o.state == state }
}

// hasNoneByItself says whether a kind of node divides by 0, or is the root of what is below 0.
func hasNoneByItself(kind int, parts []outcome) bool {
	valued := isState(1)
	return kind == impl.TermDiv && valued(parts[1]) && parts[1].value.Sign() == 0 || kind == impl.TermRoot && valued(parts[0]) && parts[0].value.Sign() < 0
}

// rootRat is the square root of a number that is not below 0; nil, if it is no fraction.
func rootRat(r *big.Rat) *big.Rat {
	root := rat(new(big.Int).Sqrt(r.Num()), new(big.Int).Sqrt(r.Denom()))
	if new(big.Rat).Mul(root, root).Cmp(r) != 0 {
		return nil
	}
	return root
}

// numberRat is the value of a number of the language.
func numberRat(text string) *big.Rat {
	value, _ := new(big.Rat).SetString(text)
	return value
}

// reckonedRat is what a node comes to over values; nil, if it is no fraction.
func reckonedRat(node impl.TermNode, of []*big.Rat) *big.Rat {
	switch node.Kind {
	case impl.TermNumber:
		return numberRat(node.Text)
	case impl.TermNeg:
		return negRat(of[0])
	case impl.TermAdd:
		return new(big.Rat).Add(of[0], of[1])
	case impl.TermSub:
		return new(big.Rat).Sub(of[0], of[1])
	case impl.TermMul:
		return new(big.Rat).Mul(of[0], of[1])
	case impl.TermDiv:
		return new(big.Rat).Quo(of[0], of[1])
	case impl.TermPow:
		return powerRat(of[0], node.N)
	case impl.TermRoot:
		return rootRat(of[0])
	case impl.TermAbs:
		return new(big.Rat).Abs(of[0])
	}
	if (of[0].Cmp(of[1]) < 0) == (node.Kind == impl.TermMin) {
		return of[0]
	}
	return of[1]
}

// outcomeOver is what a node that is no name comes to over its parts.
func outcomeOver(node impl.TermNode, parts []outcome) outcome {
	if slices.ContainsFunc(parts, isState(2)) || hasNoneByItself(node.Kind, parts) {
		return outcome{state: 2}
	}
	if slices.ContainsFunc(parts, isState(3)) {
		return outcome{state: 3}
	}
	var of []*big.Rat
	for _, part := range parts {
		of = append(of, part.value)
	}
	if value := reckonedRat(node, of); value != nil && fitsRat(value) {
		return outcome{1, value}
	}
	return outcome{state: 3}
}

// at is what a branch without uses of definitions comes to, names standing for values.
func (b branch) at(values map[string]*big.Rat) outcome {
	if b.node.Kind == impl.TermName {
		return outcome{1, values[b.node.Text]}
	}
	var parts []outcome
	for _, part := range b.parts {
		parts = append(parts, part.at(values))
	}
	return outcomeOver(b.node, parts)
}

// outcomesOf is what the nodes of an ok graph come to.
func outcomesOf(g impl.Graph, point []*big.Rat) []outcome {
	var all []outcome
	for at, node := range g.Nodes {
		if at < g.Vars {
			all = append(all, outcome{1, point[at]})
			continue
		}
		var parts []outcome
		for _, place := range nodeParts(node) {
			parts = append(parts, all[place])
		}
		all = append(all, outcomeOver(ownNode(node), parts))
	}
	return all
}

// isBrokenBy says whether a relation does not hold of two outcomes that have values.
func isBrokenBy(kind int, left outcome, right outcome) bool {
	if left.state != 1 || right.state != 1 {
		return false
	}
	order := left.value.Cmp(right.value)
	return kind == 1 && order > 0 || kind == 2 && order < 0 || kind == 3 && order != 0
}

// holdsBy is what PointHolds should tell of an ok graph with these outcomes.
func holdsBy(g impl.Graph, all []outcome) int {
	holds := 1
	if slices.ContainsFunc(all, isState(3)) {
		holds = 0
	}
	for _, rel := range g.Rels {
		if isBrokenBy(rel.Kind, all[rel.Left], all[rel.Right]) {
			holds = -1
		}
	}
	if slices.ContainsFunc(all, isState(2)) {
		holds = -1
	}
	return holds
}

// isOutcome says whether a node that was answered is an outcome, and nothing beside.
func isOutcome(node impl.PointNode, want outcome) bool {
	if want.state != 1 {
		return node.State == want.state && isNoFrac(node.Value)
	}
	return node.State == 1 && isFrac(node.Value, want.value)
}

// pointAs tells a point, or what nodes come to, in a message.
func pointAs(point []*big.Rat) string {
	var texts []string
	for _, r := range point {
		texts = append(texts, aNumber(r))
	}
	return strings.Join(texts, ", ")
}

// checkPoint holds both answers at a point against what they should be, and tells how it holds.
func checkPoint(t *testing.T, g impl.Graph, point []*big.Rat) ([]impl.PointNode, int) {
	t.Helper()
	if !isGraph(g) || len(point) != g.Vars {
		t.Fatalf("the test itself has no point of a graph: %v, %s", g, pointAs(point))
	}
	want := outcomesOf(g, point)
	got := impl.PointEval(g, fracsOf(point))
	if len(got) != len(want) {
		t.Fatalf("PointEval of %q at %s: %d nodes", textOfGraph(g), pointAs(point), len(got))
	}
	for at, node := range got {
		if !isOutcome(node, want[at]) {
			t.Errorf("PointEval of %q at %s: node %d is %v, not %v", textOfGraph(g), pointAs(point), at, node, want[at])
		}
	}
	holds := impl.PointHolds(g, fracsOf(point))
	if should := holdsBy(g, want); holds != should {
		t.Errorf("PointHolds of %q at %s: %d, not %d", textOfGraph(g), pointAs(point), holds, should)
	}
	return got, holds
}

// graphOfLines is the graph of a problem of these lines.
func graphOfLines(t *testing.T, lines ...string) impl.Graph {
	t.Helper()
	g, code := impl.GraphOf(mustProg(t, textWith(lines...)))
	if code != 0 {
		t.Fatalf("GraphOf of %q: code %d", lines, code)
	}
	return g
}

// ratsOf are numbers with blanks between.
func ratsOf(t *testing.T, text string) []*big.Rat {
	t.Helper()
	var out []*big.Rat
	for _, word := range strings.Fields(text) {
		r, ok := new(big.Rat).SetString(word)
		if !ok {
			t.Fatalf("the test itself has %q", word)
		}
		out = append(out, r)
	}
	return out
}

// nodesText is what nodes were answered, each by its value, none or hidden.
func nodesText(nodes []impl.PointNode) string {
	var texts []string
	for _, node := range nodes {
		texts = append(texts, []string{"?", impl.FracText(node.Value), "none", "hidden"}[max(0, min(node.State, 3))])
	}
	return strings.Join(texts, " ")
}

// pointCase is a problem, a point, what the nodes come to there, and how it holds.
type pointCase struct {
	lines string
	point string
	nodes string
	holds int
}

// checkPointCases takes lines that are parted by ;, variables called x, y, z.
func checkPointCases(t *testing.T, cases []pointCase) {
	t.Helper()
	for _, c := range cases {
		point := ratsOf(t, c.point)
		var lines []string
		for _, name := range []string{"x", "y", "z"}[:len(point)] {
			lines = append(lines, "var "+name)
		}
		g := graphOfLines(t, append(lines, strings.Split(c.lines, "; ")...)...)
		nodes, holds := checkPoint(t, g, point)
		if text := nodesText(nodes); text != c.nodes {
			t.Errorf("%q at %s: %q, not %q", c.lines, c.point, text, c.nodes)
		}
		if holds != c.holds {
			t.Errorf("%q at %s holds: %d, not %d", c.lines, c.point, holds, c.holds)
		}
	}
}

// somePoint is a point of so many numbers: small ones, squares, and now and then one at the limit.
func somePoint(s *spread, count int) []*big.Rat {
	var out []*big.Rat
	for range count {
		var r *big.Rat
		switch s.next() % 8 {
		case 0:
			r = new(big.Rat)
		case 1, 2:
			r = smallRat(int64(s.next()%7)-3, 1)
		case 3:
			r = powerRat(smallRat(int64(s.next()%9), 1+int64(s.next()%9)), 2)
		case 4:
			r = pick(s, rats())
		default:
			r = smallRat(int64(s.next()%41)-20, 1+int64(s.next()%12))
		}
		out = append(out, r)
	}
	return out
}
