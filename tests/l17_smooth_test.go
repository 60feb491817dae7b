package tests

import (
	"strings"
	"testing"

	"loop.example/pinfold/impl"
)

// checkSmooth wants an answer of SlopeSmooth, and slopes by each variable just if it is true.
func checkSmooth(t *testing.T, g impl.Graph, at int, want bool) {
	t.Helper()
	if got := impl.SlopeSmooth(g, at); got != want {
		t.Errorf("SlopeSmooth of %q, %d: %v", impl.GraphText(g), at, got)
	}
	for v := range g.Vars {
		if _, _, ok := checkSlope(t, g, at, v); ok != want {
			t.Errorf("SlopeMake of %q, %d, %d: %v", impl.GraphText(g), at, v, ok)
		}
	}
}

func TestSmoothNodes(t *testing.T) {
	for _, term := range []string{"x", "y", "3", "0", "1", "-x", "x + y", "x - x", "x * y", "x / y", "x / 0", "x^0", "x^8", "sqrt(x)", "sqrt(-1)", "sqrt(sqrt(x) + y^3) / -(x - 2) * 4"} {
		g := graphWith(t, "x y", term+" = 7")
		checkSmooth(t, g, g.Rels[0].Left, true)
	}
}

// The lesser, the greater and the size: as the node itself, in its first part, in its second part, and far down; also where a power of 0, or a 0, leaves nothing of it.
func TestNodesThatAreNotSmooth(t *testing.T) {
	for _, sharp := range []string{"abs(x)", "min(x, y)", "max(x, y)", "abs(3)", "min(1, 2)", "max(0, 0)", "abs(abs(y))", "min(x, max(x, y))"} {
		for _, term := range []string{"@", "-@", "@ + y", "y + @", "@ - y", "y - @", "@ * y", "y * @", "@ / y", "y / @", "@^1", "@^2", "@^0", "sqrt(@)", "0 * @", "@ * 0", "0 / @", "@ + @", "(x - sqrt(y^3 / -@)) * 2", "abs(@)", "min(@, x)", "max(x, @)"} {
			g := graphWith(t, "x y", strings.ReplaceAll(term, "@", sharp)+" = x^2 + y")
			checkSmooth(t, g, g.Rels[0].Left, false)
			// A node ahead of it that it is not made of does not bear on it.
			checkSmooth(t, g, g.Rels[0].Right, true)
		}
	}
	for _, lines := range []string{"abs(x) = x^2", "x^2 = abs(x)", "min(x, y) = max(y, x); x = x^2", "max(x^2, y) = -x^2"} {
		g := graphWith(t, "x y", lines)
		for at, node := range g.Nodes {
			sharp := node.Kind == impl.TermAbs || node.Kind == impl.TermMin || node.Kind == impl.TermMax
			checkSmooth(t, g, at, !sharp)
		}
	}
}

// Of a node of each kind, by hand.
func TestSmoothNodesOfAllKinds(t *testing.T) {
	g := kindsGraph()
	for at := range g.Nodes {
		// 10 is the size of 9, 11 and 12 are made of it.
		checkSmooth(t, g, at, at < 10)
	}
}
