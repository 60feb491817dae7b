package tests

import (
	"strconv"
	"testing"

	"loop.example/pinfold/impl"
)

// slopeCase is a problem by its variables and its lines, the variable by whose place the left side of its first relation is sloped, what is laid down for that, and the place of the slope.
type slopeCase struct {
	vars  string
	lines string
	v     int
	added string
	slope string
}

// checkSlopeCases takes lines that are parted by ;.
func checkSlopeCases(t *testing.T, cases []slopeCase) {
	t.Helper()
	for _, c := range cases {
		g := graphWith(t, c.vars, c.lines)
		made, place, ok := checkSlope(t, g, g.Rels[0].Left, c.v)
		if !ok {
			t.Errorf("%q by %d: no slope", c.lines, c.v)
			continue
		}
		if added, name := linesBehind(made, len(g.Nodes)), "n"+strconv.Itoa(place); added != c.added || name != c.slope {
			t.Errorf("%q by %d: %q and %s, not %q and %s", c.lines, c.v, added, name, c.added, c.slope)
		}
	}
}

// Each row of the table, by hand. The right side is a number, so that none of the slope is there by chance.
func TestSlopesOfEachKind(t *testing.T) {
	checkSlopeCases(t, []slopeCase{
		{"x", "7 = x", 0, "n2 = 0", "n2"},
		{"x", "0.5 = x", 0, "n2 = 0", "n2"},
		{"x", "x = 7", 0, "n2 = 1", "n2"},
		{"x y", "x = 7", 1, "n3 = 0", "n3"},
		{"x y", "y = 7", 0, "n3 = 0", "n3"},
		{"x y", "y = 7", 1, "n3 = 1", "n3"},
		{"x", "-x = 7", 0, "n3 = 1; n4 = -n3", "n4"},
		{"x", "-(-x) = 7", 0, "n4 = 1; n5 = -n4; n6 = -n5", "n6"},
		{"x", "x + x = 7", 0, "n3 = 1; n4 = n3 + n3", "n4"},
		{"x", "x - x = 7", 0, "n3 = 1; n4 = n3 - n3", "n4"},
		{"x", "x * x = 7", 0, "n3 = 1; n4 = n0 + n0", "n4"},
		{"x", "-x + x = 7", 0, "n4 = 1; n5 = -n4; n6 = n5 + n4", "n6"},
		{"x", "x - -x = 7", 0, "n4 = 1; n5 = -n4; n6 = n4 - n5", "n6"},
		{"x", "-x * x^2 = 7", 0, "n5 = 1; n6 = -n5; n7 = 2; n8 = n7 * n0; n9 = n6 * n2; n10 = n1 * n8; n11 = n9 + n10", "n11"},
		{"x y", "(x + y) * (x - y) = 7", 0, "n6 = 1; n7 = 0; n8 = n3 + n2", "n8"},
		{"x y", "(x + y) * (x - y) = 7", 1, "n6 = 0; n7 = 1; n8 = -n7; n9 = n2 * n8; n10 = n3 + n9", "n10"},
		{"x", "x / x = 7", 0, "n3 = 1; n4 = n0 - n0; n5 = n0^2; n6 = n4 / n5", "n6"},
		{"x y", "x / y = 7", 0, "n4 = 1; n5 = 0; n6 = n1^2; n7 = n1 / n6", "n7"},
		{"x y", "x / y = 7", 1, "n4 = 0; n5 = 1; n6 = -n0; n7 = n1^2; n8 = n6 / n7", "n8"},
		{"x", "-x / x^3 = 7", 0, "n5 = 1; n6 = -n5; n7 = 3; n8 = n0^2; n9 = n7 * n8; n10 = n6 * n2; n11 = n1 * n9; n12 = n10 - n11; n13 = n2^2; n14 = n12 / n13", "n14"},
		{"x", "sqrt(x) = 7", 0, "n3 = 1; n4 = 2; n5 = n4 * n1; n6 = n3 / n5", "n6"},
		{"x", "sqrt(x^2) = 7", 0, "n4 = 1; n5 = 2; n6 = n5 * n0; n7 = n5 * n2; n8 = n6 / n7", "n8"},
		{"x", "sqrt(sqrt(x)) = 7", 0, "n4 = 1; n5 = 2; n6 = n5 * n1; n7 = n4 / n6; n8 = n5 * n2; n9 = n7 / n8", "n9"},
	})
}

// Powers 0, 1, 2, the highest one, and those between.
func TestSlopesOfPowers(t *testing.T) {
	checkSlopeCases(t, []slopeCase{
		{"x", "x^0 = 7", 0, "n3 = 1; n4 = 0", "n4"},
		{"x", "x^1 = 7", 0, "n3 = 1", "n3"},
		{"x", "x^2 = 7", 0, "n3 = 1; n4 = 2; n5 = n4 * n0", "n5"},
		{"x", "x^3 = 7", 0, "n3 = 1; n4 = 3; n5 = n0^2; n6 = n4 * n5", "n6"},
		{"x", "x^4 = 7", 0, "n3 = 1; n4 = 4; n5 = n0^3; n6 = n4 * n5", "n6"},
		{"x", "x^7 = 3", 0, "n3 = 1; n4 = 7; n5 = n0^6; n6 = n4 * n5", "n6"},
		{"x", "x^8 = 7", 0, "n3 = 1; n4 = 8; n5 = n0^7; n6 = n4 * n5", "n6"},
		{"x", "(-x)^0 = 7", 0, "n4 = 1; n5 = -n4; n6 = 0", "n6"},
		{"x", "(-x)^1 = 7", 0, "n4 = 1; n5 = -n4", "n5"},
		{"x", "(-x)^2 = 7", 0, "n4 = 1; n5 = -n4; n6 = 2; n7 = n6 * n1; n8 = n7 * n5", "n8"},
		{"x", "(-x)^8 = 7", 0, "n4 = 1; n5 = -n4; n6 = 8; n7 = n1^7; n8 = n6 * n7; n9 = n8 * n5", "n9"},
		{"x", "(x^2)^3 = 7", 0, "n4 = 1; n5 = 2; n6 = n5 * n0; n7 = 3; n8 = n1^2; n9 = n7 * n8; n10 = n9 * n6", "n10"},
		{"x", "(x^1)^2 = 7", 0, "n4 = 1; n5 = 2; n6 = n5 * n1", "n6"},
		{"x", "(x^0)^2 = 7", 0, "n4 = 1; n5 = 0", "n5"},
		// What comes to 0, but is not just the number, is not left out.
		{"x", "(x - x)^2 = 7", 0, "n4 = 1; n5 = n4 - n4; n6 = 2; n7 = n6 * n1; n8 = n7 * n5", "n8"},
	})
}

// Whose part has the slope 0: neither the number of the power nor a lesser power is laid down, nor the 2 of a root.
func TestSlopesOfWhatStays(t *testing.T) {
	for n := range impl.TermMaxPower + 1 {
		power := "^" + strconv.Itoa(n)
		checkSlopeCases(t, []slopeCase{
			{"x y", "y" + power + " = 7", 0, "n4 = 0", "n4"},
			{"x y", "x" + power + " = 7", 1, "n4 = 0", "n4"},
			{"x", "9" + power + " = x", 0, "n3 = 0", "n3"},
			{"x", "0" + power + " = x", 0, "", "n1"},
			{"x", "(x^0)" + power + " = 7", 0, "n4 = 1; n5 = 0", "n5"},
		})
	}
	checkSlopeCases(t, []slopeCase{
		{"x y", "sqrt(y) = 7", 0, "n4 = 0", "n4"},
		{"x", "sqrt(9) = x", 0, "n3 = 0", "n3"},
		{"x", "sqrt(0) = x", 0, "", "n1"},
		{"x", "sqrt(x^0) = 7", 0, "n4 = 1; n5 = 0", "n5"},
		{"x y", "-sqrt(y^3 + 2) / y = 7", 0, "n9 = 0", "n9"},
	})
}

// A quotient whose upper part comes to just 0 has no power of its lower part.
func TestSlopesOfQuotientsThatStay(t *testing.T) {
	checkSlopeCases(t, []slopeCase{
		{"x", "2 / 3 = x", 0, "n4 = 0", "n4"},
		{"x y", "y / 3 = 7", 0, "n5 = 0", "n5"},
		{"x y", "3 / y = 7", 0, "n5 = 0", "n5"},
		{"x y", "y / y = 7", 0, "n4 = 0", "n4"},
		{"x", "0 / x = 7", 0, "n4 = 1", "n1"},
		{"x", "x / 0 = 7", 0, "n4 = 1", "n1"},
		{"x", "0 / 0 = x", 0, "", "n1"},
		{"x", "x^0 / 5 = 7", 0, "n5 = 1; n6 = 0", "n6"},
		{"x", "x * (0 / x) = 7", 0, "n5 = 1", "n2"},
		// It comes to something else that is 0: then the power is there.
		{"x", "0.0 / x = 7", 0, "n4 = 1; n5 = 0; n6 = -n1; n7 = n0^2; n8 = n6 / n7", "n8"},
		{"x", "x / 0.0 = 7", 0, "n4 = 1; n5 = 0; n6 = n1^2; n7 = n1 / n6", "n7"},
		{"x", "-x / -x = 7", 0, "n4 = 1; n5 = -n4; n6 = n5 * n1; n7 = n1 * n5; n8 = n6 - n7; n9 = n1^2; n10 = n8 / n9", "n10"},
		// One part of the upper part is 0.
		{"x", "1 / x = 7", 0, "n4 = 0; n5 = -n1; n6 = n0^2; n7 = n5 / n6", "n7"},
		{"x", "x / 1 = 7", 0, "n4 = 0; n5 = n1^2; n6 = n1 / n5", "n6"},
		{"x", "x / 2 = 7", 0, "n4 = 1; n5 = 0; n6 = n1^2; n7 = n1 / n6", "n7"},
		{"x", "x^2 / 5 = 7", 0, "n5 = 1; n6 = 2; n7 = n6 * n0; n8 = 0; n9 = n7 * n2; n10 = n2^2; n11 = n9 / n10", "n11"},
		{"x", "5 / x^2 = 7", 0, "n5 = 1; n6 = 0; n7 = 2; n8 = n7 * n0; n9 = n1 * n8; n10 = -n9; n11 = n2^2; n12 = n10 / n11", "n12"},
		// A square of the lower part that is there already.
		{"x y", "x / y = y^2", 0, "n4 = 1; n5 = 0; n6 = n1 / n3", "n6"},
	})
}

// The order of nodes is that of their places, not that of the parts of the whole.
func TestSlopesInTheOrderOfPlaces(t *testing.T) {
	g := graphWith(t, "x", "x^3 = x^2; x^2 * x^3 = 7")
	made, place, _ := checkSlope(t, g, g.Rels[1].Left, 0)
	if added := linesBehind(made, len(g.Nodes)); added != "n5 = 1; n6 = 3; n7 = n6 * n2; n8 = 2; n9 = n8 * n0; n10 = n9 * n1; n11 = n2 * n7; n12 = n10 + n11" || place != 12 {
		t.Errorf("the second factor stands first: %q, %d", added, place)
	}
	g = graphWith(t, "x y z", "sqrt(z) = y^2; -x = 7; y^2 - (-x - sqrt(z)) = 8")
	made, place, _ = checkSlope(t, g, g.Rels[2].Left, 2)
	if added := linesBehind(made, len(g.Nodes)); added != "n10 = 0; n11 = 1; n12 = 2; n13 = n12 * n3; n14 = n11 / n13; n15 = -n14; n16 = -n15" || place != 16 {
		t.Errorf("three parts in another order: %q, %d", added, place)
	}
}

// Nothing is laid down for parts that a node is not made of, wherever they stand, smooth or not.
func TestSlopesOfSomeNodesAlone(t *testing.T) {
	checkSlopeCases(t, []slopeCase{
		{"x y", "x * y = 7; x^5 / y = sqrt(x); -x = y^8", 0, "n9 = 1; n10 = 0", "n1"},
		{"x y z", "x * y = 7; z = z^3", 2, "n6 = 0", "n6"},
		{"x y z", "-y = 7", 1, "n5 = 1; n6 = -n5", "n6"},
		{"x y z", "3 = 7; x * y = z", 0, "n6 = 0", "n6"},
	})
	// Smooth and other nodes ahead that it is not made of.
	g := graphWith(t, "x y", "x^3 = abs(x); min(x, y) = max(y, x^3); -y = 4")
	made, place, ok := checkSlope(t, g, g.Rels[2].Left, 1)
	if added := linesBehind(made, len(g.Nodes)); !ok || added != "n8 = 1; n9 = -n8" || place != 9 {
		t.Errorf("%q, %d, %v", added, place, ok)
	}
}

// Each node of a graph has a slope of its own, by each variable.
func TestSlopesOfAllNodes(t *testing.T) {
	s := spread{240}
	there := 0
	for at := range 150 {
		g := mixedGraph(&s, at)
		for place := range g.Nodes {
			for v := range g.Vars {
				if _, _, ok := checkSlope(t, g, place, v); ok {
					there++
				}
			}
		}
	}
	if there < 2000 {
		t.Errorf("only %d slopes", there)
	}
}
