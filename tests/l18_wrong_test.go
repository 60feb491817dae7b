package tests

import (
	"math"
	"slices"
	"testing"

	"loop.example/pinfold/impl"
)

// checkNoRevision wants nothing of HullRevise.
func checkNoRevision(t *testing.T, width int, g impl.Graph, b impl.Box, rel int) {
	t.Helper()
	if left, gap, ok := impl.HullRevise(width, g, b, rel); ok || gap != (impl.HullGap{}) || len(left.Pairs) != 0 {
		t.Errorf("HullRevise of %d, %.600v, %.300v, %d: %v, %v, %v", width, g, b, rel, left, gap, ok)
	}
}

// checkNothingOver wants nothing of all five functions, of relations that are there, too.
func checkNothingOver(t *testing.T, width int, g impl.Graph, b impl.Box) {
	t.Helper()
	if belongTogether(width, g, b) {
		t.Fatalf("the test itself has a graph and a box that belong together: %v, %v", g, b)
	}
	if spans := impl.HullForward(width, g, b); len(spans) != 0 {
		t.Errorf("HullForward of %d, %.600v, %.300v: %v", width, g, b, spans)
	}
	if code := impl.HullRefutes(width, g, b); code != 0 {
		t.Errorf("HullRefutes of %d, %.600v, %.300v: %d", width, g, b, code)
	}
	if impl.HullSure(width, g, b) {
		t.Errorf("HullSure of %d, %.600v, %.300v", width, g, b)
	}
	for _, rel := range []int{-1, 0, 1, len(g.Rels) - 1, len(g.Rels)} {
		checkNoRevision(t, width, g, b, rel)
	}
	if left, gap, ok := impl.HullRound(width, g, b); ok || gap != (impl.HullGap{}) || len(left.Pairs) != 0 {
		t.Errorf("HullRound of %d, %.600v, %.300v: %v, %v, %v", width, g, b, left, gap, ok)
	}
}

// soundCases are problems and boxes over which something is told by each function, of each of these to be made wrong.
func soundCases() []roundCase {
	return []roundCase{
		{"x >= 0", "1..2", "1..2", ""}, {"x * y = 1", "-5..7 -1..1", "-5..7 -1..1", "0: -1..1"}, {"x + y + z <= 30; sqrt(x) >= 0; 1 / z <= 9", "1..2 3..4 5..6", "1..2 3..4 5..6", ""}, {"x <= 0", "1..2", "", ""}, {"sqrt(x) = x", "-2..-1", "", ""},
	}
}

func TestHullOfWrongWidths(t *testing.T) {
	for _, c := range soundCases() {
		g := graphWith(t, namesFor(c.box), c.lines)
		for _, width := range bothWidths() {
			b := boxAs(t, width, c.box)
			if got := checkOver(t, width, g, b); got.ok != (c.left != "") {
				t.Errorf("%q over %s: %v", c.lines, c.box, got)
			}
			for _, wrong := range wrongWidths() {
				checkNothingOver(t, wrong, g, b)
			}
		}
	}
	for _, wrong := range wrongWidths() {
		checkNothingOver(t, wrong, leastGraph(), impl.Box{Pairs: []impl.Pair{{}}})
		checkNothingOver(t, wrong, impl.Graph{}, impl.Box{})
	}
}

// A box of the other width: a wide one has order numbers that no narrow float has; a narrow one is a wide one, too, of other numbers.
func TestHullOfBoxesOfTheOtherWidth(t *testing.T) {
	for _, c := range soundCases() {
		g := graphWith(t, namesFor(c.box), c.lines)
		checkNothingOver(t, 32, g, boxAs(t, 64, c.box))
		checkOver(t, 64, g, boxAs(t, 32, c.box))
		// One pair alone is of the other width.
		b := boxAs(t, 32, c.box)
		for at, p := range boxAs(t, 64, c.box).Pairs {
			checkNothingOver(t, 32, g, withPair(b, at, p))
		}
	}
}

func TestHullOfWrongBoxes(t *testing.T) {
	for _, width := range bothWidths() {
		for vars := 1; vars <= 6; vars++ {
			g := varsGraph(vars, vars)
			for _, b := range wrongBoxes(width) {
				if !belongTogether(width, g, b) {
					checkNothingOver(t, width, g, b)
				}
			}
			for _, wrong := range wrongPairs(width) {
				for at := range vars {
					b := impl.Box{Pairs: slices.Repeat([]impl.Pair{{Lo: 0, Hi: 9}}, vars)}
					b.Pairs[at] = wrong
					checkNothingOver(t, width, g, b)
				}
			}
		}
	}
}

// As many pairs as variables: one more, one less, and none at all.
func TestHullByTheCountOfPairs(t *testing.T) {
	for _, width := range bothWidths() {
		for vars := 1; vars <= 6; vars++ {
			g := varsGraph(vars, vars)
			for count := range 9 {
				b := impl.Box{Pairs: slices.Repeat([]impl.Pair{{Lo: 3, Hi: 9}}, count)}
				if count != vars {
					checkNothingOver(t, width, g, b)
					continue
				}
				if got := checkOver(t, width, g, b); !got.ok || !sameBox(got.box, b) {
					t.Errorf("%d: %d pairs: %s", width, count, got.text(width))
				}
			}
		}
		// Nor as many pairs as nodes.
		g := graphWith(t, "x", "x = 2")
		checkNothingOver(t, width, g, boxAs(t, width, "1..3 2"))
	}
}

// Places of relations that are none, on either side.
func TestHullOfRelationsThatAreNone(t *testing.T) {
	for _, width := range bothWidths() {
		for _, c := range soundCases() {
			g := graphWith(t, namesFor(c.box), c.lines)
			b := boxAs(t, width, c.box)
			for _, rel := range noPlaces(len(g.Rels)) {
				checkNoRevision(t, width, g, b, rel)
			}
			for rel := range g.Rels {
				checkRevise(t, width, g, b, rel)
			}
		}
		full := varsGraph(1, 1)
		full.Rels = slices.Repeat(full.Rels, impl.ProgMaxRels)
		for rel := range 20 {
			if _, _, ok := impl.HullRevise(width, full, boxAs(t, width, "0..1"), rel); ok != (rel < impl.ProgMaxRels) {
				t.Errorf("%d: relation %d: %v", width, rel, ok)
			}
		}
	}
}

func TestHullOfWrongGraphs(t *testing.T) {
	for _, width := range bothWidths() {
		for _, g := range []impl.Graph{{}, {Vars: 1}, {Vars: math.MaxInt}, {Vars: math.MinInt}, {Vars: -1}, negated(120), negated(1000), varsGraph(0, 0), varsGraph(0, 1), varsGraph(7, 7), varsGraph(1, 2), varsGraph(2, 1)} {
			for count := range 8 {
				checkNothingOver(t, width, g, impl.Box{Pairs: slices.Repeat([]impl.Pair{{Lo: 3, Hi: 9}}, count)})
			}
		}
		base := graphWith(t, "x y", "x * y = 7; -x <= y; sqrt(y) = 2")
		b := boxAs(t, width, "1..9 2..8")
		for _, g := range madeWrong(base) {
			checkNothingOver(t, width, g, b)
		}
	}
}

func TestHullOfManyWrongGraphs(t *testing.T) {
	t.Parallel()
	s := spread{262}
	vars := 0
	good, wrong := checkChanged(t, &s, 800, func() impl.Graph {
		vars++
		return onlyKinds(&s, 1+vars%6, 8, allKinds()...)
	}, checkOver, checkNothingOver)
	if wrong < 600 || good < 200 {
		t.Errorf("only %d wrong ones, %d good ones", wrong, good)
	}
}
