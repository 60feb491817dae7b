package tests

import (
	"math/big"
	"testing"

	"loop.example/pinfold/impl"
)

// checkValuesIn wants the value of each node at a point of a box, where it has one, in the node's span, and tells how many have one.
func checkValuesIn(t *testing.T, width int, g impl.Graph, b impl.Box, point []*big.Rat) int {
	t.Helper()
	told := 0
	spans := impl.HullForward(width, g, b)
	for at, node := range impl.PointEval(g, fracsOf(point)) {
		if node.State != impl.PointValue {
			continue
		}
		told++
		if !impl.SpanHas(width, spans[at], node.Value) {
			t.Errorf("%d: node %d of %q over %s: %s has not %s, at %s", width, at, textOfGraph(g), boxText(width, b), spanText(width, spans[at]), impl.FracText(node.Value), pointAs(point))
		}
	}
	return told
}

// Promise 55: a graph reckoned over a box holds what it is at every point of the box: the value of each node at a point of the box, where it has one, lies in the node's span.
func TestSpansHoldTheValuesOfPoints(t *testing.T) {
	t.Parallel()
	s := spread{253}
	told := 0
	for at := range 600 {
		g := onlyKinds(&s, 1+at%4, []int{1, 3, 6, 12}[at%4], allKinds()...)
		for _, width := range bothWidths() {
			b := someBoxOf(&s, width, g.Vars)
			for range 6 {
				told += checkValuesIn(t, width, g, b, somePointOf(&s, width, b))
			}
		}
	}
	if told < 25000 {
		t.Errorf("only %d values", told)
	}
}

// Promise 55, by boxes of single floats and next to them: what is rounded is rounded outward.
func TestSpansHoldTheValuesOfSmallBoxes(t *testing.T) {
	t.Parallel()
	s := spread{254}
	for at := range 600 {
		g := onlyKinds(&s, 1+at%4, []int{1, 3, 6, 12}[at%4], allKinds()...)
		for _, width := range bothWidths() {
			point := somePointOf(&s, width, someBoxOf(&s, width, g.Vars))
			var b impl.Box
			for _, r := range point {
				b.Pairs = append(b.Pairs, besides(width, r))
			}
			checkValuesIn(t, width, g, b, point)
		}
	}
}

// checkSure wants of a box that is told sure that none of its points is told to be no solution, that it is not refuted, and that something is left of it.
func checkSure(t *testing.T, s *spread, width int, g impl.Graph, b impl.Box) {
	t.Helper()
	for range 12 {
		point := somePointOf(s, width, b)
		if impl.PointHolds(g, fracsOf(point)) == -1 {
			t.Errorf("%d: %q over %s is sure, but not at %s", width, textOfGraph(g), boxText(width, b), pointAs(point))
		}
	}
	if code := impl.HullRefutes(width, g, b); code != 0 {
		t.Errorf("%d: %q over %s is sure, but refuted: %d", width, textOfGraph(g), boxText(width, b), code)
	}
	if _, _, ok := impl.HullRound(width, g, b); !ok {
		t.Errorf("%d: %q over %s is sure, but nothing is left", width, textOfGraph(g), boxText(width, b))
	}
}

// checkRefuted wants of a box that is refuted that no point of it is a solution, and that nothing is left of it.
func checkRefuted(t *testing.T, s *spread, width int, g impl.Graph, b impl.Box) {
	t.Helper()
	for range 12 {
		point := somePointOf(s, width, b)
		if impl.PointHolds(g, fracsOf(point)) == 1 {
			t.Errorf("%d: %q over %s is refuted, but solved by %s", width, textOfGraph(g), boxText(width, b), pointAs(point))
		}
	}
	if left, gap, ok := impl.HullRound(width, g, b); ok || len(left.Pairs) != 0 || gap != (impl.HullGap{}) {
		t.Errorf("%d: %q over %s is refuted, but %s is left", width, textOfGraph(g), boxText(width, b), boxText(width, left))
	}
}

// boundTo is a graph with relations of its last nodes with numbers, so that there are boxes that are sure and others that are refuted.
func boundTo(s *spread, g impl.Graph) impl.Graph {
	pad := slopePad{copiedGraph(g).Nodes}
	out := impl.Graph{Vars: g.Vars}
	for range 1 + s.next()%3 {
		left := len(g.Nodes) - 1 - int(s.next()%uint64(min(len(g.Nodes), 3)))
		out.Rels = append(out.Rels, impl.GraphRel{Kind: 1 + int(s.next()%3), Left: left, Right: pad.putNumber(pick(s, []string{"0", "1", "2", "0.5", "9", "1e3"}))})
	}
	out.Nodes = pad.nodes
	return out
}

// Promises 56 and 57: a box that is told sure holds solutions alone, is not refuted, and something is left of it; a box that is refuted holds no solution, and nothing is left of it.
func TestSureAndRefutedBoxes(t *testing.T) {
	t.Parallel()
	s := spread{255}
	sure, refuted := 0, map[bool]int{}
	for at := range 2500 {
		g := boundTo(&s, onlyKinds(&s, 1+at%3, []int{1, 2, 4, 7}[at%4], allKinds()...))
		for _, width := range bothWidths() {
			b := someBoxOf(&s, width, g.Vars)
			if impl.HullSure(width, g, b) {
				sure++
				checkSure(t, &s, width, g, b)
			}
			if code := impl.HullRefutes(width, g, b); code != 0 {
				refuted[code < 0]++
				checkRefuted(t, &s, width, g, b)
			}
		}
	}
	if sure < 250 || refuted[true] < 200 || refuted[false] < 800 {
		t.Errorf("only %d sure, %v refuted", sure, refuted)
	}
}

// Promise 56, at the points that a quotient and a root fail at: a box that has one is not sure, though its relations are.
func TestSureBoxesHaveNoPointThatFails(t *testing.T) {
	for _, width := range bothWidths() {
		for _, c := range []struct{ lines, box, point string }{
			{"1 / x >= 0", "0..2", "0"}, {"1 / x <= 0", "-2..0", "0"}, {"1 / x^2 >= 0", "-1..1", "0"}, {"0 / x = 0", "-1..1", "0"}, {"(1 / x)^0 = 1", "-1..1", "0"}, {"sqrt(x) >= 0", "-1..2", "-1"}, {"sqrt(x) >= 0", "0\"..2", "-1e-400"}, {"sqrt(x)^0 = 1", "-1..2", "-1"}, {"sqrt(x) * 0 = 0", "-1..2", "-1"}, {"1 / sqrt(x) >= 0", "0..2", "0"}, {"x / y >= 0", "1..2 0..1", "1 0"}, {"sqrt(x - y) >= 0", "1..2 0..2", "1 2"}, {"x >= 1", "0..2", "1/2"}, {"x <= 1", "0..2", "3/2"}, {"x = 1", "1..2", "3/2"}, {"x >= 1; y >= 1", "1..2 0..2", "1 0"},
		} {
			g := graphWith(t, namesFor(c.box), c.lines)
			b := boxAs(t, width, c.box)
			point := fracsOf(ratsOf(t, c.point))
			if !impl.BoxHas(width, b, point) || impl.PointHolds(g, point) != -1 {
				t.Errorf("%d: the test itself has %s of %q over %s", width, c.point, c.lines, c.box)
			}
			if impl.HullSure(width, g, b) {
				t.Errorf("%d: %q over %s is sure, but not at %s", width, c.lines, c.box, c.point)
			}
		}
	}
}

// checkSolved wants of a box with a solution that it is not refuted, and that no revision loses the solution, nor has it strictly within a gap that is told.
func checkSolved(t *testing.T, width int, g impl.Graph, b impl.Box, point []*big.Rat) {
	t.Helper()
	if code := impl.HullRefutes(width, g, b); code != 0 {
		t.Errorf("%d: %q over %s is solved by %s, but refuted: %d", width, textOfGraph(g), boxText(width, b), pointAs(point), code)
	}
	checkKeeps(t, width, g, b, point, checkRound(t, width, g, b))
	for rel := range g.Rels {
		checkKeeps(t, width, g, b, point, checkRevise(t, width, g, b, rel))
	}
}

func checkKeeps(t *testing.T, width int, g impl.Graph, b impl.Box, point []*big.Rat, left narrowed) {
	t.Helper()
	if !left.ok || !impl.BoxHas(width, left.box, fracsOf(point)) {
		t.Errorf("%d: %q over %s is solved by %s, but %s is left", width, textOfGraph(g), boxText(width, b), pointAs(point), left.text(width))
		return
	}
	gap := left.gap
	if !gap.Some {
		return
	}
	below := impl.Pair{Lo: -topOf(width), Hi: gap.Pair.Lo}
	above := impl.Pair{Lo: gap.Pair.Hi, Hi: topOf(width)}
	if !isWithin(width, below, point[gap.Var]) && !isWithin(width, above, point[gap.Var]) {
		t.Errorf("%d: %q over %s is solved by %s, which lies within the gap of %s", width, textOfGraph(g), boxText(width, b), pointAs(point), left.text(width))
	}
}

// Promise 57, and what narrowing must not do, from the other side: boxes around solutions are never refuted, and never lose them.
func TestSolutionsAreNotRefuted(t *testing.T) {
	t.Parallel()
	s := spread{256}
	solved := 0
	for at := range 3000 {
		g := onlyKinds(&s, 1+at%3, []int{1, 2, 4, 7}[at%4], allKinds()...)
		point := somePoint(&s, g.Vars)
		g, ok := solvedGraph(&s, g, point)
		if !ok {
			continue
		}
		if impl.PointHolds(g, fracsOf(point)) != 1 {
			t.Fatalf("the test itself has %q at %s", textOfGraph(g), pointAs(point))
		}
		solved++
		for _, width := range bothWidths() {
			checkSolved(t, width, g, boxAround(&s, width, point), point)
		}
	}
	if solved < 1200 {
		t.Errorf("only %d graphs", solved)
	}
}

// So with products, whose gaps a solution never lies within.
func TestSolutionsAreNotWithinGaps(t *testing.T) {
	t.Parallel()
	s := spread{257}
	gaps := 0
	for at := range 1500 {
		g := productsGraph(&s, 2+at%2)
		point := somePoint(&s, g.Vars)
		g, ok := solvedGraph(&s, g, point)
		if !ok {
			continue
		}
		for _, width := range bothWidths() {
			b := boxAround(&s, width, point)
			for at, p := range b.Pairs {
				// Wide enough to have 0, now and then.
				far := max(p.Hi, -p.Lo)
				if s.next()%2 == 0 {
					b.Pairs[at] = impl.Pair{Lo: -far, Hi: far}
				}
			}
			checkSolved(t, width, g, b, point)
			if _, gap, _ := impl.HullRound(width, g, b); gap.Some {
				gaps++
			}
		}
	}
	if gaps < 60 {
		t.Errorf("only %d gaps", gaps)
	}
}

// graphInTurn is by turns a graph whose last nodes are held against numbers, one of products, and one of any relations.
func graphInTurn(s *spread, at int) impl.Graph {
	g := onlyKinds(s, 1+at%4, []int{1, 2, 4, 8}[at%4], allKinds()...)
	switch at % 3 {
	case 0:
		return boundTo(s, g)
	case 1:
		return productsGraph(s, 2+at%2)
	}
	return g
}

// checkLess wants of a box within another one that all that is reckoned of it, and what is left of it, lies within what that of the other one is.
func checkLess(t *testing.T, width int, g impl.Graph, inner impl.Box, outer impl.Box) {
	t.Helper()
	whole := impl.HullForward(width, g, outer)
	for at, span := range impl.HullForward(width, g, inner) {
		if !spanWithin(span, whole[at]) {
			t.Errorf("%d: node %d of %q over %s: %s, but over %s: %s", width, at, textOfGraph(g), boxText(width, inner), spanText(width, span), boxText(width, outer), spanText(width, whole[at]))
		}
	}
	less, _, isLess := impl.HullRound(width, g, inner)
	more, _, isMore := impl.HullRound(width, g, outer)
	if isLess && (!isMore || !impl.BoxIs(less, more)) {
		t.Errorf("%d: of %q over %s is left %s, but over %s: %s", width, textOfGraph(g), boxText(width, inner), boxText(width, less), boxText(width, outer), boxText(width, more))
	}
	if impl.HullSure(width, g, outer) && !impl.HullSure(width, g, inner) {
		t.Errorf("%d: %q is sure over %s, but not over %s", width, textOfGraph(g), boxText(width, outer), boxText(width, inner))
	}
	if impl.HullRefutes(width, g, outer) != 0 && impl.HullRefutes(width, g, inner) == 0 {
		t.Errorf("%d: %q is refuted over %s, but not over %s", width, textOfGraph(g), boxText(width, outer), boxText(width, inner))
	}
	for rel := range g.Rels {
		less, _, isLess := impl.HullRevise(width, g, inner, rel)
		more, _, isMore := impl.HullRevise(width, g, outer, rel)
		if isLess && (!isMore || !impl.BoxIs(less, more)) {
			t.Errorf("%d: relation %d of %q leaves of %s: %s, but of %s: %s", width, rel, textOfGraph(g), boxText(width, inner), boxText(width, less), boxText(width, outer), boxText(width, more))
		}
	}
}

// Promise 59: knowing more never leaves more: what is reckoned of a box within another one, and what is left of it, lies within what these are of the other one; where nothing is left of that, nothing is left of it; a box within a sure one is sure.
func TestKnowingMoreNeverLeavesMore(t *testing.T) {
	t.Parallel()
	s := spread{258}
	left, sure, nothing := 0, 0, 0
	for at := range 1500 {
		g := graphInTurn(&s, at)
		for _, width := range bothWidths() {
			outer := someBoxOf(&s, width, g.Vars)
			for range 3 {
				inner := within(width, &s, outer)
				checkLess(t, width, g, inner, outer)
				if impl.HullSure(width, g, outer) {
					sure++
				}
				if _, _, ok := impl.HullRound(width, g, inner); ok {
					left++
				} else {
					nothing++
				}
				outer = inner
			}
		}
	}
	if left < 1500 || sure < 300 || nothing < 2000 {
		t.Errorf("only %d left, %d sure, %d nothing", left, sure, nothing)
	}
}

// Promise 59 for a box within itself, and for single floats of it.
func TestKnowingMostNeverLeavesMore(t *testing.T) {
	t.Parallel()
	s := spread{259}
	for at := range 400 {
		g := boundTo(&s, onlyKinds(&s, 1+at%3, 1+at%6, allKinds()...))
		for _, width := range bothWidths() {
			outer := someBoxOf(&s, width, g.Vars)
			checkLess(t, width, g, outer, outer)
			single := cloned(outer)
			for at, p := range outer.Pairs {
				lo, hi := max(p.Lo, 1-topOf(width)), min(p.Hi, topOf(width)-1)
				ord := pick(&s, []int{lo, hi, lo + int(impl.BitGap(lo, hi)/2)})
				single.Pairs[at] = impl.Pair{Lo: ord, Hi: ord}
				checkLess(t, width, g, single, outer)
			}
		}
	}
}

// checkBothWidths wants of a wide box that what is left of it lies within what is left of the narrow box around it, widened, and that it is refuted where that is.
func checkBothWidths(t *testing.T, g impl.Graph, wide impl.Box) (bool, bool) {
	t.Helper()
	narrow, ok := impl.BoxLess(wide)
	if !ok {
		t.Fatalf("the test itself has the box %v", wide)
	}
	less, _, isLess := impl.HullRound(64, g, wide)
	more, _, isMore := impl.HullRound(32, g, narrow)
	around, _ := impl.BoxMore(more)
	if isLess && (!isMore || !impl.BoxIs(less, around)) {
		t.Errorf("of %q over %s is left %s, but of narrow floats: %s", textOfGraph(g), boxText(64, wide), boxText(64, less), boxText(32, more))
	}
	isRefuted := impl.HullRefutes(32, g, narrow) != 0
	if isRefuted && impl.HullRefutes(64, g, wide) == 0 {
		t.Errorf("%q is refuted over %s, but not over %s", textOfGraph(g), boxText(32, narrow), boxText(64, wide))
	}
	spans := impl.HullForward(32, g, narrow)
	for at, span := range impl.HullForward(64, g, wide) {
		if !spanWithin(span, moreSpan(spans[at])) {
			t.Errorf("node %d of %q over %s: %s, but of narrow floats: %s", at, textOfGraph(g), boxText(64, wide), spanText(64, span), spanText(32, spans[at]))
		}
	}
	return isLess, isRefuted
}

// Promise 60: the narrow floats leave no less than the wide ones: what is left of a wide box lies within what is left of the narrow box around it, widened; where a narrow box is refuted, so is the wide one.
func TestNarrowFloatsLeaveNoLess(t *testing.T) {
	t.Parallel()
	s := spread{260}
	left, refuted := 0, 0
	for at := range 3000 {
		g := graphInTurn(&s, at)
		wide := someBoxOf(&s, 64, g.Vars)
		if at%2 == 0 {
			// Floats that are no narrow ones.
			wide = boxAround(&s, 64, somePointOf(&s, 64, wide))
		}
		isLeft, isRefuted := checkBothWidths(t, g, wide)
		if isLeft {
			left++
		}
		if isRefuted {
			refuted++
		}
	}
	if left < 900 || refuted < 400 {
		t.Errorf("only %d left, %d refuted", left, refuted)
	}
}

// Promise 60 where a wide box is a narrow one, and where wide floats lie beyond all narrow ones, or between the least of them and 0.
func TestNarrowFloatsLeaveNoLessAtTheEdges(t *testing.T) {
	for _, c := range []struct{ lines, box string }{
		{"x^2 = 2", "0..2"}, {"x * y = 1", "-5..7 -1..1"}, {"x + y = 0.3", "0..1 0..1"}, {"x >= 1e39", "0..inf"}, {"x >= 1e39", "1e100..1e101"}, {"x^2 = 1e80", "0..1e50"}, {"x <= 1e-50", "0..1"}, {"x * y = 1e-60", "1e-60..1 1e-60..1"}, {"1 / x >= 1e45", "1e-60..1"}, {"sqrt(x) <= 1e-30", "-1e-100..1e-50"}, {"1 / x = y", "1e-300..1e300 1e-300..1e300"}, {"x - y = 1e-50", "1..2 1..2"}, {"x = y", "0'..1 -1..0\""}, {"x = y", "1'..1' 1..1"}, {"x <= y", "1' 1"}, {"sqrt(x) = 1", "-1e-300..-1e-301"}, {"1 / x = 1", "0..1e-300"}, {"min(x, y) = 0.1", "0..1 0.1..0.1"},
	} {
		checkBothWidths(t, graphWith(t, namesFor(c.box), c.lines), boxAs(t, 64, c.box))
	}
}
