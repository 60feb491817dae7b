package tests

import (
	"slices"
	"testing"
)

// slopeRelCase is a problem by its variables and its lines, a relation, what is laid down for it, the place of its difference and the places of the slopes.
type slopeRelCase struct {
	vars   string
	lines  string
	rel    int
	added  string
	at     int
	slopes []int
}

func checkSlopeRelCases(t *testing.T, cases []slopeRelCase) {
	t.Helper()
	for _, c := range cases {
		g := graphWith(t, c.vars, c.lines)
		made, at, slopes, ok := checkSlopeRel(t, g, c.rel)
		if added := linesBehind(made, len(g.Nodes)); !ok || added != c.added || at != c.at || !slices.Equal(slopes, c.slopes) {
			t.Errorf("%q, %d: %q, %d, %v, %v, not %q, %d, %v", c.lines, c.rel, added, at, slopes, ok, c.added, c.at, c.slopes)
		}
	}
}

func TestSlopesOfRelations(t *testing.T) {
	checkSlopeRelCases(t, []slopeRelCase{
		{"x", "x = 7", 0, "n2 = n0 - n1; n3 = 1; n4 = 0", 2, []int{3}},
		{"x", "7 <= x", 0, "n2 = n1 - n0; n3 = 1; n4 = 0; n5 = -n3", 2, []int{5}},
		{"x y", "x >= y", 0, "n2 = n0 - n1; n3 = 1; n4 = 0; n5 = -n3", 2, []int{3, 5}},
		{"x y", "x^2 = y", 0, "n3 = n2 - n1; n4 = 1; n5 = 0; n6 = 2; n7 = n6 * n0; n8 = -n4", 3, []int{7, 8}},
		{"x y", "x * y = 7", 0, "n4 = n2 - n3; n5 = 1; n6 = 0", 4, []int{1, 0}},
		{"x y", "3 = 7", 0, "n4 = n2 - n3; n5 = 0", 4, []int{5, 5}},
		// The difference itself is never left out, nor made shorter.
		{"x", "x = 0", 0, "n2 = n0 - n1; n3 = 1", 2, []int{3}},
		{"x", "0 = x", 0, "n2 = n1 - n0; n3 = 1; n4 = -n3", 2, []int{4}},
		{"x", "0 = 0", 0, "n2 = n1 - n1", 2, []int{1}},
		// Of many relations each one by itself.
		{"x y", "x = 7; y^2 <= x; x * y >= 2", 0, "n6 = n0 - n2; n7 = 1; n8 = 0", 6, []int{7, 8}},
		{"x y", "x = 7; y^2 <= x; x * y >= 2", 1, "n6 = n3 - n0; n7 = 1; n8 = 0; n9 = -n7; n10 = n5 * n1", 6, []int{9, 10}},
		{"x y", "x = 7; y^2 <= x; x * y >= 2", 2, "n6 = n4 - n5; n7 = 1; n8 = 0", 6, []int{1, 0}},
		// Six variables, two of which stand in it.
		{"a b c d e f", "f - b = c^0", 0, "n8 = n6 - n7; n9 = 0; n10 = 1; n11 = -n10", 8, []int{9, 11, 9, 9, 9, 10}},
	})
}

// Both sides are one node: the difference is laid down, and its slopes as they come.
func TestRelationsOfOneNode(t *testing.T) {
	checkSlopeRelCases(t, []slopeRelCase{
		{"x", "x = x", 0, "n1 = n0 - n0; n2 = 1; n3 = n2 - n2", 1, []int{3}},
		{"x y", "y <= y", 0, "n2 = n1 - n1; n3 = 0; n4 = 1; n5 = n4 - n4", 2, []int{3, 5}},
		{"x", "7 >= 7", 0, "n2 = n1 - n1; n3 = 0", 2, []int{3}},
		{"x y", "x^2 = x^2", 0, "n3 = n2 - n2; n4 = 1; n5 = 2; n6 = n5 * n0; n7 = n6 - n6; n8 = 0", 3, []int{7, 8}},
		{"x", "x - x = x - x", 0, "n2 = n1 - n1; n3 = 1; n4 = n3 - n3; n5 = n4 - n4", 2, []int{5}},
	})
}

// The difference is there already: as a side of another relation, as a part, or as a side of the relation itself; what stands the other way round is not it.
func TestDifferencesThatAreThere(t *testing.T) {
	checkSlopeRelCases(t, []slopeRelCase{
		{"x y", "x - y = 3; x = y", 1, "n4 = 1; n5 = 0; n6 = -n4", 2, []int{4, 6}},
		{"x y", "x - y = 3; y = x", 1, "n4 = n1 - n0; n5 = 1; n6 = 0; n7 = -n5", 4, []int{7, 5}},
		{"x y", "x = y; abs(x - y) = 3", 0, "n5 = 1; n6 = 0; n7 = -n5", 2, []int{5, 7}},
		{"x", "x - x = 1; x = x", 1, "n3 = n2 - n2", 1, []int{3}},
		{"x", "-(x - 1) = x; x = 1", 1, "n4 = 0", 2, []int{1}},
		// Another sign, or another number, between the same nodes.
		{"x y", "x + y = 3; x = y", 1, "n4 = n0 - n1; n5 = 1; n6 = 0; n7 = -n5", 4, []int{5, 7}},
		{"x", "x - 1.0 = 3; x = 1", 1, "n5 = n0 - n4; n6 = 0", 5, []int{4}},
	})
}

// Several slopes one behind the other: each finds what those ahead of it have laid down.
func TestSlopesOneBehindTheOther(t *testing.T) {
	checkSlopeRelCases(t, []slopeRelCase{
		{"x y", "x^3 * y^3 = 7", 0, "n6 = n4 - n5; n7 = 1; n8 = 0; n9 = 3; n10 = n0^2; n11 = n9 * n10; n12 = n11 * n3; n13 = n1^2; n14 = n9 * n13; n15 = n2 * n14", 6, []int{12, 15}},
		{"x y z", "x / z = y / z", 0, "n5 = n3 - n4; n6 = 1; n7 = 0; n8 = n2^2; n9 = n2 / n8; n10 = -n9; n11 = -n0; n12 = n11 / n8; n13 = -n1; n14 = n13 / n8; n15 = n12 - n14", 5, []int{9, 10, 15}},
		{"x y", "sqrt(x * y) = y", 0, "n4 = n3 - n1; n5 = 1; n6 = 0; n7 = 2; n8 = n7 * n3; n9 = n1 / n8; n10 = n0 / n8; n11 = n10 - n5", 4, []int{9, 11}},
	})
	// By hand, one call behind the other: by x, by y, and the slope's own slopes.
	g := graphWith(t, "x y", "x^2 * y = 7")
	steps := []struct {
		at, v int
		added string
		slope int
	}{
		{3, 0, "n5 = 1; n6 = 0; n7 = 2; n8 = n7 * n0; n9 = n8 * n1", 9},
		{3, 1, "", 2},
		{9, 0, "n10 = n7 * n1", 10},
		{9, 1, "", 8},
		{10, 0, "", 6},
		{10, 1, "", 7},
		{3, 0, "", 9},
	}
	for _, step := range steps {
		made, place, ok := checkSlope(t, g, step.at, step.v)
		if added := linesBehind(made, len(g.Nodes)); !ok || added != step.added || place != step.slope {
			t.Errorf("%d by %d: %q, %d, %v", step.at, step.v, added, place, ok)
		}
		g = made
	}
}

// A side that is not smooth, on either side or both, and beside a relation that is.
func TestRelationsThatAreNotSmooth(t *testing.T) {
	for _, c := range []struct {
		lines  string
		smooth []bool
	}{
		{"abs(x) = 7", []bool{false}},
		{"7 = abs(x)", []bool{false}},
		{"min(x, y) >= max(x, y)", []bool{false}},
		{"x + sqrt(max(x, 1)) <= y; x = y", []bool{false, true}},
		{"x = y; y <= x / min(x, y); x * y = 3; abs(x)^0 = 1", []bool{true, false, true, false}},
		{"x - abs(y) = 0; x = abs(y); x = y", []bool{false, false, true}},
	} {
		g := graphWith(t, "x y", c.lines)
		for rel, want := range c.smooth {
			if _, _, _, ok := checkSlopeRel(t, g, rel); ok != want {
				t.Errorf("%q, %d: %v", c.lines, rel, ok)
			}
		}
	}
}

func TestSlopesOfRelationsOfSomeGraphs(t *testing.T) {
	t.Parallel()
	s := spread{241}
	there := 0
	for at := range 800 {
		g := mixedGraph(&s, at)
		for rel := range g.Rels {
			if _, _, _, ok := checkSlopeRel(t, g, rel); ok {
				there++
			}
		}
	}
	if there < 700 {
		t.Errorf("only %d relations", there)
	}
}
