package tests

import (
	"slices"
	"testing"

	"loop.example/pinfold/impl"
)

// checkNoSlopesOver wants nothing of NewtonFits and NewtonNarrow.
func checkNoSlopesOver(t *testing.T, width int, g impl.Graph, b impl.Box, rel int) {
	t.Helper()
	if impl.NewtonFits(width, g, b, rel) {
		t.Errorf("NewtonFits of %d, %.600v, %.300v, %d", width, g, b, rel)
	}
	if left, ok := impl.NewtonNarrow(width, g, b, rel); ok || len(left.Pairs) != 0 {
		t.Errorf("NewtonNarrow of %d, %.600v, %.300v, %d: %v, %v", width, g, b, rel, left, ok)
	}
}

// checkNothingBySlopes wants nothing of all four functions, of relations that are there, too.
func checkNothingBySlopes(t *testing.T, width int, g impl.Graph, b impl.Box) {
	t.Helper()
	if belongTogether(width, g, b) {
		t.Fatalf("the test itself has a graph and a box that belong together: %v, %v", g, b)
	}
	for _, rel := range []int{-1, 0, 1, len(g.Rels) - 1, len(g.Rels)} {
		checkNoSlopesOver(t, width, g, b, rel)
	}
	if left, ok := impl.NewtonRound(width, g, b); ok || len(left.Pairs) != 0 {
		t.Errorf("NewtonRound of %d, %.600v, %.300v: %v, %v", width, g, b, left, ok)
	}
	if left, gap, ok := impl.HullAll(width, g, b); ok || gap != (impl.HullGap{}) || len(left.Pairs) != 0 {
		t.Errorf("HullAll of %d, %.600v, %.300v: %v, %v, %v", width, g, b, left, gap, ok)
	}
}

// slopesCases are problems and boxes of each of which something is left, to be made wrong: of slopes that fit, that fit in part, and that do not.
func slopesCases() []reviseCase {
	return []reviseCase{
		{"x <= 3", "1..4", "1..3"}, {"x * y = 12", "1..4 1..4", "3..4 3..4"}, {"abs(x) <= 3", "1..4", "1..3"}, {"abs(x) >= 0; x + x + x + x <= 8; x * y = 1", "-4..4 -1..1", "-4..2 -1..1"}, {"x + y + z <= 30; sqrt(x) >= 0; 1 / z <= 9", "1..2 3..4 5..6", "1..2 3..4 5..6"}, {"x = x", "1 1 1 1 1 1", "1 1 1 1 1 1"},
	}
}

func TestSlopesOfWrongWidths(t *testing.T) {
	for _, c := range slopesCases() {
		g := graphWith(t, namesFor(c.box), c.lines)
		for _, width := range bothWidths() {
			b := boxAs(t, width, c.box)
			if got := checkBySlopes(t, width, g, b); !sameBox(got.box, boxAs(t, width, c.left)) {
				t.Errorf("%d: %q over %s: %s", width, c.lines, c.box, got.text(width))
			}
			for _, wrong := range wrongWidths() {
				checkNothingBySlopes(t, wrong, g, b)
			}
		}
	}
	for _, wrong := range wrongWidths() {
		checkNothingBySlopes(t, wrong, leastGraph(), impl.Box{Pairs: []impl.Pair{{}}})
		checkNothingBySlopes(t, wrong, impl.Graph{}, impl.Box{})
	}
}

// A box of the other width: a wide one has order numbers that no narrow float has; a narrow one is a wide one, too, of other numbers.
func TestSlopesOfBoxesOfTheOtherWidth(t *testing.T) {
	for _, c := range slopesCases() {
		g := graphWith(t, namesFor(c.box), c.lines)
		checkNothingBySlopes(t, 32, g, boxAs(t, 64, c.box))
		checkBySlopes(t, 64, g, boxAs(t, 32, c.box))
		b := boxAs(t, 32, c.box)
		for at, p := range boxAs(t, 64, c.box).Pairs {
			checkNothingBySlopes(t, 32, g, withPair(b, at, p))
		}
	}
}

// Boxes that are not ok, in each of their pairs, and of more or less pairs than there are variables.
func TestSlopesOfWrongBoxes(t *testing.T) {
	for _, width := range bothWidths() {
		for _, c := range slopesCases() {
			g := graphWith(t, namesFor(c.box), c.lines)
			b := boxAs(t, width, c.box)
			for at := range b.Pairs {
				for _, wrong := range wrongPairs(width) {
					checkNothingBySlopes(t, width, g, withPair(b, at, wrong))
				}
				checkNothingBySlopes(t, width, g, impl.Box{Pairs: slices.Delete(slices.Clone(b.Pairs), at, at+1)})
			}
			checkNothingBySlopes(t, width, g, impl.Box{Pairs: append(slices.Clone(b.Pairs), b.Pairs[0])})
			checkNothingBySlopes(t, width, g, impl.Box{Pairs: append(slices.Clone(b.Pairs), b.Pairs...)})
			checkNothingBySlopes(t, width, g, impl.Box{})
		}
		for _, wrong := range wrongBoxes(width) {
			for _, vars := range []int{1, 2, 3, 6} {
				checkNothingBySlopes(t, width, varsGraph(vars, vars), wrong)
			}
		}
		for vars := 1; vars <= 6; vars++ {
			for count := range 8 {
				b := impl.Box{Pairs: slices.Repeat(boxAs(t, width, "0..1").Pairs, count)}
				if count == vars {
					checkBySlopes(t, width, varsGraph(vars, vars), b)
				} else {
					checkNothingBySlopes(t, width, varsGraph(vars, vars), b)
				}
			}
		}
	}
}

// Relations that are none, on either side.
func TestSlopesOfNoRelation(t *testing.T) {
	for _, width := range bothWidths() {
		for _, c := range slopesCases() {
			g := graphWith(t, namesFor(c.box), c.lines)
			b := boxAs(t, width, c.box)
			for _, rel := range noPlaces(len(g.Rels)) {
				checkNoSlopesOver(t, width, g, b, rel)
			}
		}
	}
}

// Graphs that are not ok, though each node by itself could be reckoned.
func TestSlopesOverBoxesOfWrongGraphs(t *testing.T) {
	for _, width := range bothWidths() {
		base := graphWith(t, "x y", "x^2 + sqrt(y) = 3; x * y <= x / y; -x >= y - 1.5")
		b := boxAs(t, width, "1..2 1..2")
		checkBySlopes(t, width, base, b)
		for _, g := range madeWrong(base) {
			checkNothingBySlopes(t, width, g, b)
		}
	}
}

func TestSlopesOverBoxesOfManyWrongGraphs(t *testing.T) {
	t.Parallel()
	s := spread{274}
	vars := 0
	good, wrong := checkChanged(t, &s, 500, func() impl.Graph {
		vars++
		return onlyKinds(&s, 1+vars%6, 6, smoothKinds()...)
	}, checkBySlopes, checkNothingBySlopes)
	if wrong < 400 || good < 120 {
		t.Errorf("only %d wrong ones, %d good ones", wrong, good)
	}
}
