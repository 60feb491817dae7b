package tests

import (
	"math/big"
	"slices"
	"testing"

	"loop.example/pinfold/impl"
)

// checkSlopeValue wants the value of a node's slope at a point where the node and all ahead of it have values, and tells in what state it is.
func checkSlopeValue(t *testing.T, g impl.Graph, at int, v int, point []*big.Rat, want *big.Rat) int {
	t.Helper()
	made, place, ok := impl.SlopeMake(g, at, v)
	if !ok {
		return 0
	}
	node := impl.PointEval(made, fracsOf(point))[place]
	if node.State != impl.PointHidden && (node.State != impl.PointValue || !isFrac(node.Value, want)) {
		t.Errorf("the slope of %d of %q by %d at %s: %v, not %s", at, textOfGraph(g), v, pointAs(point), node, aNumber(want))
	}
	return node.State
}

// checkSlopeValues goes over all nodes up to the first that has no value, and by all variables, and counts states.
func checkSlopeValues(t *testing.T, g impl.Graph, point []*big.Rat, states map[int]int) {
	t.Helper()
	all := outcomesOf(g, point)
	hasNone := func(o outcome) bool { return o.state != impl.PointValue }
	last := slices.IndexFunc(append(all, outcome{}), hasNone) - 1
	for v := range g.Vars {
		for at, d := range slopesAt(g, last, v, all) {
			states[checkSlopeValue(t, g, at, v, point, d.slope)]++
		}
	}
}

// Promise 51: at a point where a node of sums, differences, products, quotients and powers, and all nodes ahead of it, have values, the node that SlopeMake tells has, if it is not hidden, the value of the node's slope.
func TestTheSlopeIsTheSlope(t *testing.T) {
	t.Parallel()
	s := spread{243}
	states := map[int]int{}
	for at := range 400 {
		g := onlyKinds(&s, 1+at%3, []int{1, 3, 6, 10}[at%4], wholeKinds()...)
		checkSlopeValues(t, g, somePoint(&s, g.Vars), states)
	}
	if states[impl.PointValue] < 3000 {
		t.Errorf("only so many of each: %v", states)
	}
}

// Promise 51, with roots where these are not 0: so it is by the table, too.
func TestTheSlopeIsTheSlopeOfRoots(t *testing.T) {
	t.Parallel()
	s := spread{244}
	states := map[int]int{}
	for range 600 {
		g := onlyKinds(&s, 1, 3, smoothKinds()...)
		point := []*big.Rat{powerRat(smallRat(1+int64(s.next()%9), 1+int64(s.next()%4)), 2)}
		isNought := func(node impl.GraphNode) bool {
			all := outcomesOf(g, point)
			return node.Kind == impl.TermRoot && (all[node.A].value == nil || all[node.A].value.Sign() == 0)
		}
		if !slices.ContainsFunc(g.Nodes, isNought) {
			checkSlopeValues(t, g, point, states)
		}
	}
	if states[impl.PointValue] < 700 {
		t.Errorf("only so many of each: %v", states)
	}
}

// Promise 51, by hand.
func TestValuesOfSlopes(t *testing.T) {
	for _, c := range []struct {
		vars, lines string
		v           int
		point, want string
	}{
		{"x", "x^3 = 7", 0, "5", "75"},
		{"x", "x^3 = 7", 0, "0", "0"},
		{"x", "x^8 = 7", 0, "-1/2", "-1/16"},
		{"x", "x^1 = 7", 0, "9", "1"},
		{"x", "x^0 = 7", 0, "0", "0"},
		{"x", "(x^2 - 2 * x)^2 = 7", 0, "3", "24"},
		{"x", "(x - 3)^2 * (x + 1) = 7", 0, "3", "0"},
		{"x", "(x^2 + 1) / (x - 1) = 7", 0, "3", "1/2"},
		{"x", "1 / x = 7", 0, "-2/3", "-9/4"},
		{"x", "1.0 / x = 7", 0, "-2/3", "-9/4"},
		{"x", "1 / (1 / x) = 7", 0, "-2/3", "1"},
		{"x", "x / x = 7", 0, "4", "0"},
		{"x", "0.0 / x^2 = 7", 0, "4", "0"},
		{"x", "-(3 - x) * 1.0 = 7", 0, "4", "1"},
		{"x", "0.0 * x^2 - x / 1e0 = 7", 0, "4", "-1"},
		{"x y", "x^2 * y^3 = 7", 0, "2 3", "108"},
		{"x y", "x^2 * y^3 = 7", 1, "2 3", "108"},
		{"x y", "x^2 / y^3 = 7", 1, "2 3", "-4/27"},
		{"x y", "(x - y) / (x + y) = 7", 0, "1 2", "4/9"},
		{"x y", "(x - y) / (x + y) = 7", 1, "1 2", "-2/9"},
		{"x y", "-x^2 - (y - x * y) = 7", 1, "5 2", "4"},
		{"x y", "x^2 = y", 1, "5 2", "0"},
		{"x", "sqrt(x) = 7", 0, "9/4", "1/3"},
		{"x", "sqrt(25 - x^2) = 7", 0, "3", "-3/4"},
		{"x", "sqrt(2 + 2) * x = 7", 0, "-1", "2"},
	} {
		g := graphWith(t, c.vars, c.lines)
		point := ratsOf(t, c.point)
		if state := checkSlopeValue(t, g, g.Rels[0].Left, c.v, point, numberRat(c.want)); state != impl.PointValue {
			t.Errorf("%q by %d at %s: state %d", c.lines, c.v, c.point, state)
		}
	}
}

// Promise 51 at points where a slope has no room: it is hidden then, and never none.
func TestSlopesAtGreatPoints(t *testing.T) {
	most := mostNat()
	states := map[int]int{}
	for _, lines := range []string{"x^0 = 7", "x^1 * 1 = 7", "x - 1 = 7", "1 / x = 7", "x / x = 7", "2 / x - x = 7", "x * x / x = 7", "x^0 / x^1 = 7"} {
		for _, r := range []*big.Rat{wholeRat(most), rat(big.NewInt(-1), most), rat(moved(most, -1), most), wholeRat(mostWithPower(2)), rat(big.NewInt(1), mostWithPower(2))} {
			checkSlopeValues(t, graphWith(t, "x", lines), []*big.Rat{r}, states)
		}
	}
	if states[impl.PointHidden] < 5 || states[impl.PointNone] > 0 || states[impl.PointValue] < 50 {
		t.Errorf("only so many of each: %v", states)
	}
}

// checkLeft wants of a graph that was answered that it begins with the one that was handed in, and what its nodes are at a point.
func checkLeft(t *testing.T, g impl.Graph, made impl.Graph, point []impl.Frac) {
	t.Helper()
	if made.Vars != g.Vars || len(made.Nodes) < len(g.Nodes) || !slices.Equal(made.Nodes[:len(g.Nodes)], g.Nodes) || !slices.Equal(made.Rels, g.Rels) || !impl.GraphOk(made) {
		t.Fatalf("%q is not left in %q", textOfGraph(g), impl.GraphText(made))
	}
	before, behind := impl.PointEval(g, point), impl.PointEval(made, point)
	if !slices.EqualFunc(before, behind[:len(before)], samePointNode) {
		t.Errorf("%q: %q, but %q in %q", textOfGraph(g), nodesText(before), nodesText(behind), impl.GraphText(made))
	}
}

// checkOneBehindTheOther wants what SlopeRel answered of SlopeMake, one call behind the other.
func checkOneBehindTheOther(t *testing.T, g impl.Graph, rel int, made impl.Graph, at int, slopes []int) {
	t.Helper()
	sides := signNode("-", g.Rels[rel].Left, g.Rels[rel].Right)
	if len(slopes) != g.Vars || at < 0 || at >= len(made.Nodes) || made.Nodes[at] != sides {
		t.Fatalf("SlopeRel of %q, %d: %d, %v", textOfGraph(g), rel, at, slopes)
	}
	step := copiedGraph(g)
	if !slices.Contains(step.Nodes, sides) {
		step.Nodes = append(step.Nodes, sides)
	}
	for v, slope := range slopes {
		next, place, ok := impl.SlopeMake(step, at, v)
		if !ok || place != slope {
			t.Fatalf("SlopeMake of %q, %d, %d: %d, %v, not %d", textOfGraph(step), at, v, place, ok, slope)
		}
		// Of what was answered it is the same, and there is nothing more to lay down.
		if again, place, ok := impl.SlopeMake(made, at, v); !ok || place != slope || !sameGraph(again, made) {
			t.Errorf("SlopeMake of %q, %d, %d: %d, %v", textOfGraph(made), at, v, place, ok)
		}
		step = next
	}
	if !sameGraph(step, made) {
		t.Errorf("SlopeRel of %q, %d: %q, not %q", textOfGraph(g), rel, impl.GraphText(made), impl.GraphText(step))
	}
}

// Promise 52: SlopeRel leaves all nodes that were as they were, and what they are at a point; each slope is what SlopeMake of the difference tells, wherever that is there. And SlopeMake leaves them, too.
func TestSlopesLeaveWhatWas(t *testing.T) {
	t.Parallel()
	s := spread{245}
	there := 0
	for at := range 500 {
		g := mixedGraph(&s, at)
		point := fracsOf(somePoint(&s, g.Vars))
		for rel := range g.Rels {
			made, place, slopes, ok := impl.SlopeRel(g, rel)
			if !ok {
				continue
			}
			there++
			checkLeft(t, g, made, point)
			checkOneBehindTheOther(t, g, rel, made, place, slopes)
		}
		if made, _, ok := impl.SlopeMake(g, len(g.Nodes)-1, at%g.Vars); ok {
			checkLeft(t, g, made, point)
		}
	}
	if there < 500 {
		t.Errorf("only %d relations", there)
	}
}

// Promise 52 by what slopes are: that of the difference is the slope of the left side less that of the right side, at a point where all have values.
func TestSlopesOfDifferencesAreDifferences(t *testing.T) {
	t.Parallel()
	s := spread{246}
	told := 0
	for at := range 400 {
		g := onlyKinds(&s, 1+at%3, 2+at%8, wholeKinds()...)
		point := somePoint(&s, g.Vars)
		made, _, slopes, ok := impl.SlopeRel(g, 0)
		all := outcomesOf(g, point)
		if !ok || slices.ContainsFunc(all, isState(2)) || slices.ContainsFunc(all, isState(3)) {
			continue
		}
		nodes := impl.PointEval(made, fracsOf(point))
		for v, slope := range slopes {
			duals := slopesAt(g, len(g.Nodes)-1, v, all)
			want := lessRat(duals[g.Rels[0].Left].slope, duals[g.Rels[0].Right].slope)
			if nodes[slope].State == impl.PointHidden {
				continue
			}
			told++
			if !isOutcome(nodes[slope], outcome{1, want}) {
				t.Errorf("%q by %d at %s: %v, not %s", textOfGraph(g), v, pointAs(point), nodes[slope], aNumber(want))
			}
		}
	}
	if told < 250 {
		t.Errorf("only %d slopes", told)
	}
}
