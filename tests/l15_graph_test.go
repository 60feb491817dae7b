package tests

import (
	"strings"
	"testing"

	"loop.example/pinfold/impl"
)

// graphCase is a text, and the text of its graph.
type graphCase struct {
	text, want string
}

func checkGraphCases(t *testing.T, cases []graphCase) {
	t.Helper()
	for _, c := range cases {
		g, code := checkGraph(t, mustProg(t, c.text))
		if text := impl.GraphText(g); code != 0 || text != c.want {
			t.Errorf("GraphOf of %q: code %d, %q, not %q", c.text, code, text, c.want)
		}
	}
}

func TestGraphsOfProblemsWithoutDefinitions(t *testing.T) {
	checkGraphCases(t, []graphCase{
		{textWith("var x", "x = 1"), textWith("n0 = var", "n1 = 1", "n0 = n1")},
		{textWith("var x", "1 <= x"), textWith("n0 = var", "n1 = 1", "n1 <= n0")},
		{textWith("var x", "x >= x"), textWith("n0 = var", "n0 >= n0")},
		// Variables come first, in order, those that no relation names too.
		{textWith("var z", "var y", "var x", "x <= 1"), textWith("n0 = var", "n1 = var", "n2 = var", "n3 = 1", "n2 <= n3")},
		{textWith("var a", "var b", "var c", "var d", "var e", "var f", "1 = f - a"), textWith("n0 = var", "n1 = var", "n2 = var", "n3 = var", "n4 = var", "n5 = var", "n6 = 1", "n7 = n5 - n0", "n6 = n7")},
		{textWith("1 = 2", "var x"), textWith("n0 = var", "n1 = 1", "n2 = 2", "n1 = n2")},
		// The left side ahead of the right one, parts in order, ahead of what they are parts of.
		{textWith("var x", "1 + 2 * 3 = 4 - 5"), textWith("n0 = var", "n1 = 1", "n2 = 2", "n3 = 3", "n4 = n2 * n3", "n5 = n1 + n4", "n6 = 4", "n7 = 5", "n8 = n6 - n7", "n5 = n8")},
		{textWith("var x", "var y", "y / x >= x / y", "-x <= sqrt(y)"), textWith("n0 = var", "n1 = var", "n2 = n1 / n0", "n3 = n0 / n1", "n4 = -n0", "n5 = sqrt(n1)", "n2 >= n3", "n4 <= n5")},
		{textWith("var x", "(1 - 2) * (3 - 4) = min(5, max(6, 7))"), textWith("n0 = var", "n1 = 1", "n2 = 2", "n3 = n1 - n2", "n4 = 3", "n5 = 4", "n6 = n4 - n5", "n7 = n3 * n6", "n8 = 5", "n9 = 6", "n10 = 7", "n11 = max(n9, n10)", "n12 = min(n8, n11)", "n7 = n12")},
		// All relations of all kinds stay, also those that are alike.
		{textWith("var x", "x = 1", "x <= 1", "x >= 1", "x = 1", "1 = x"), textWith("n0 = var", "n1 = 1", "n0 = n1", "n0 <= n1", "n0 >= n1", "n0 = n1", "n1 = n0")},
	})
}

// What is alike stands once; what differs in anything stands by itself.
func TestNodesThatAreAlike(t *testing.T) {
	checkGraphCases(t, []graphCase{
		// In one term, in both sides, and in two relations.
		{textWith("var x", "x * x + x * x = 1"), textWith("n0 = var", "n1 = n0 * n0", "n2 = n1 + n1", "n3 = 1", "n2 = n3")},
		{textWith("var x", "x + 1 = (x + 1) * (x + 1)"), textWith("n0 = var", "n1 = 1", "n2 = n0 + n1", "n3 = n2 * n2", "n2 = n3")},
		{textWith("var x", "-x = 1", "--x <= -(1 - -x)"), textWith("n0 = var", "n1 = -n0", "n2 = 1", "n3 = -n1", "n4 = n2 - n1", "n5 = -n4", "n1 = n2", "n3 <= n5")},
		// Kind alone, A alone, B alone, N alone, Text alone.
		{textWith("var x", "var y", "x + y = x - y", "x * y = x / y", "min(x, y) = max(x, y)", "-x = sqrt(x)", "x^0 = abs(x)"), textWith("n0 = var", "n1 = var", "n2 = n0 + n1", "n3 = n0 - n1", "n4 = n0 * n1", "n5 = n0 / n1", "n6 = min(n0, n1)", "n7 = max(n0, n1)", "n8 = -n0", "n9 = sqrt(n0)", "n10 = n0^0", "n11 = abs(n0)", "n2 = n3", "n4 = n5", "n6 = n7", "n8 = n9", "n10 = n11")},
		{textWith("var x", "var y", "x - y = y - y", "-x = -y", "x^2 = y^2"), textWith("n0 = var", "n1 = var", "n2 = n0 - n1", "n3 = n1 - n1", "n4 = -n0", "n5 = -n1", "n6 = n0^2", "n7 = n1^2", "n2 = n3", "n4 = n5", "n6 = n7")},
		{textWith("var x", "var y", "x - x = x - y", "min(y, x) = min(y, y)"), textWith("n0 = var", "n1 = var", "n2 = n0 - n0", "n3 = n0 - n1", "n4 = min(n1, n0)", "n5 = min(n1, n1)", "n2 = n3", "n4 = n5")},
		{textWith("var x", "x^2 + x^3 = x^1"), textWith("n0 = var", "n1 = n0^2", "n2 = n0^3", "n3 = n1 + n2", "n4 = n0^1", "n3 = n4")},
		{textWith("var x", "1 + 2 = 2 + 1"), textWith("n0 = var", "n1 = 1", "n2 = 2", "n3 = n1 + n2", "n4 = n2 + n1", "n3 = n4")},
		// Numbers of one value with unlike texts.
		{textWith("var x", "1 + 1.0 = 1e0 - 10e-1", "1.0 = 1"), textWith("n0 = var", "n1 = 1", "n2 = 1.0", "n3 = n1 + n2", "n4 = 1e0", "n5 = 10e-1", "n6 = n4 - n5", "n3 = n6", "n2 = n1")},
		// A power of 0, and a number, beside variables, whose places they could be taken for.
		{textWith("var x", "var y", "x^0 = x^1", "0 = 1"), textWith("n0 = var", "n1 = var", "n2 = n0^0", "n3 = n0^1", "n4 = 0", "n5 = 1", "n2 = n3", "n4 = n5")},
	})
}

func TestGraphsOfProblemsWithDefinitions(t *testing.T) {
	checkGraphCases(t, []graphCase{
		// One that is not used, and ones without parameters.
		{textWith("def f(a) = a + 9", "def c = 8", "var x", "x = 1"), textWith("n0 = var", "n1 = 1", "n0 = n1")},
		{textWith("def c = 2", "var x", "x = c"), textWith("n0 = var", "n1 = 2", "n0 = n1")},
		{textWith("def d = c - c", "def c = 7 + 8", "var x", "d = c"), textWith("n0 = var", "n1 = 7", "n2 = 8", "n3 = n1 + n2", "n4 = n3 - n3", "n4 = n3")},
		// An argument that the body uses twice is laid down once.
		{textWith("def sq(a) = a * a", "var x", "sq(x + 1) = sq(sq(x))"), textWith("n0 = var", "n1 = 1", "n2 = n0 + n1", "n3 = n2 * n2", "n4 = n0 * n0", "n5 = n4 * n4", "n3 = n5")},
		// A part that the body does not use is not laid down.
		{textWith("def one(a) = 1", "var x", "one(5 / x) = x"), textWith("n0 = var", "n1 = 1", "n1 = n0")},
		{textWith("def k(a, b) = b", "var x", "k(5 / x, -x) = k(k(1, 2), k(k(3, 4), x))"), textWith("n0 = var", "n1 = -n0", "n1 = n0")},
		{textWith("def one(a) = 1", "def f(a, b) = one(a) + b", "var x", "f(2, 3) = one(f(4, 5))"), textWith("n0 = var", "n1 = 1", "n2 = 3", "n3 = n1 + n2", "n3 = n1")},
		// An argument is laid down where it stands in the body, behind what stands ahead of it there.
		{textWith("def f(a) = 2 + a", "var x", "f(3 * x) = 1"), textWith("n0 = var", "n1 = 2", "n2 = 3", "n3 = n2 * n0", "n4 = n1 + n3", "n5 = 1", "n4 = n5")},
		{textWith("def f(a, b) = b - a", "var x", "f(1, 2) = x"), textWith("n0 = var", "n1 = 2", "n2 = 1", "n3 = n1 - n2", "n3 = n0")},
		{textWith("def f(a, b) = 9 * b - 8 * a", "def g(a, b) = -b + f(a, b)", "var x", "g(1, 2) = x"), textWith("n0 = var", "n1 = 2", "n2 = -n1", "n3 = 9", "n4 = n3 * n1", "n5 = 8", "n6 = 1", "n7 = n5 * n6", "n8 = n4 - n7", "n9 = n2 + n8", "n9 = n0")},
		{textWith("def f(a, b) = a - b * a", "var x", "f(f(1, 2), f(3, 4)) = x"), textWith("n0 = var", "n1 = 1", "n2 = 2", "n3 = n2 * n1", "n4 = n1 - n3", "n5 = 3", "n6 = 4", "n7 = n6 * n5", "n8 = n5 - n7", "n9 = n8 * n4", "n10 = n4 - n9", "n10 = n0")},
		// Parameters hide variables, and arguments name what stands outside.
		{textWith("def f(y, x) = x - y", "var x", "var y", "f(x, y) = f(f(1, x), y)"), textWith("n0 = var", "n1 = var", "n2 = n1 - n0", "n3 = 1", "n4 = n0 - n3", "n5 = n1 - n4", "n2 = n5")},
		{textWith("def f(a, b) = a / b", "def g(b, a) = f(b, a) + f(a, b)", "var x", "g(x, 1) = g(1, x)"), textWith("n0 = var", "n1 = 1", "n2 = n0 / n1", "n3 = n1 / n0", "n4 = n2 + n3", "n5 = n3 + n2", "n4 = n5")},
		{textWith("def f(a) = g(a + 1)", "def g(a) = h(a + 2) + a", "def h(a) = a + 3", "var x", "f(x) = h(1)"), textWith("n0 = var", "n1 = 1", "n2 = n0 + n1", "n3 = 2", "n4 = n2 + n3", "n5 = 3", "n6 = n4 + n5", "n7 = n6 + n2", "n8 = n1 + n5", "n7 = n8")},
		// As many parameters as can be, and a body that is one of them.
		{textWith("def f(a, b, c, d, e, g) = g - e * d", "def i(a, b, c, d, e, g) = g", "var x", "f(1, 2, 3, 4, 5, 6) = i(x, x, x, x, x, f(9, 8, 7, x, x, x))"), textWith("n0 = var", "n1 = 6", "n2 = 5", "n3 = 4", "n4 = n2 * n3", "n5 = n1 - n4", "n6 = n0 * n0", "n7 = n0 - n6", "n5 = n7")},
		// Bodies share with each other and with sides.
		{textWith("def c = 1 + 1", "def f(a) = a + 1", "var x", "f(1) = c", "1 + 1 <= f(f(1))"), textWith("n0 = var", "n1 = 1", "n2 = n1 + n1", "n3 = n2 + n1", "n2 = n2", "n2 <= n3")},
		// What the document shows.
		{textWith("def sq(a) = a * a", "def one(a) = 1", "var x", "var y", "sq(x + y) <= one(1 / x) + sq(x + y)"), textWith("n0 = var", "n1 = var", "n2 = n0 + n1", "n3 = n2 * n2", "n4 = 1", "n5 = n4 + n3", "n3 <= n5")},
	})
}

// As many definitions as can be: terms of thousands of nodes that no term has room for, in a graph of a few.
func TestGraphsOfGreatTerms(t *testing.T) {
	lines := []string{"n0 = var", "n1 = n0 + n0", "n2 = n1 + n1", "n3 = n2 + n2", "n4 = n3 + n3", "n5 = n4 + n4", "n6 = n5 + n5", "n7 = n6 + n6", "n8 = n7 + n7", "n9 = n8 + n8", "n10 = n9 + n9", "n11 = n10 + n10", "n12 = n11 + n11"}
	checkGraphCases(t, []graphCase{
		{textWith(append(doublings(), "var x", "d11(x) = x")...), textWith(append(lines, "n12 = n0")...)},
		{textWith(append(doublings(), "var x", "d11(x) >= d11(x)", "d5(x) = d6(x)")...), textWith(append(lines, "n12 >= n12", "n6 = n7")...)},
		{textWith(append(backwards(doublings()), "var x", "x = d11(x)")...), textWith(append(lines, "n0 = n12")...)},
	})
	// To the last step, and one beyond.
	head := append(doublings(), "var x")
	g, code := checkGraph(t, mustProg(t, textWith(append(head, atTheLimit("d0(x)")...)...)))
	if want := textWith(append(lines, "n12 = n12", "n10 <= n9", "n8 >= n4", "n1 = n1")...); code != 0 || impl.GraphText(g) != want {
		t.Errorf("code %d, %q", code, impl.GraphText(g))
	}
	if g, code = checkGraph(t, mustProg(t, textWith(append(head, atTheLimit("-d0(x)")...)...))); code != impl.GraphTooLong || !noGraph(g) {
		t.Errorf("one step more: code %d, %v", code, g)
	}
	// What is not there as a flat problem is there as a graph.
	p := mustProg(t, textWith("def f(a) = a + a", "var x", "f(f(f(f(f(f(x)))))) = 1"))
	if _, ok := impl.ProgFlat(p); ok {
		t.Error("the test itself has a term that fits")
	}
	checkGraphCases(t, []graphCase{{textOfProg(p), textWith(append(lines[:7:7], "n7 = 1", "n6 = n7")...)}})
}

// wideProg is a problem whose graph has so many nodes, up to 200: variables first, then x with - ahead, then a number with - ahead.
func wideProg(t *testing.T, vars int, nodes int) impl.Prog {
	t.Helper()
	var lines []string
	for _, name := range numbered("x", vars) {
		lines = append(lines, "var "+name)
	}
	return mustProg(t, textWith(append(lines, long(80, "x0")+" = "+long(nodes-vars-79, "1"))...))
}

func TestGraphsOfAsManyNodesAsCanBe(t *testing.T) {
	for vars := 1; vars <= impl.ProgMaxVars; vars++ {
		for nodes := 110; nodes <= 130; nodes++ {
			g, code := checkGraph(t, wideProg(t, vars, nodes))
			if isIn := nodes <= impl.GraphMaxNodes; isIn != (code == 0) || isIn && len(g.Nodes) != nodes || !isIn && code != impl.GraphTooMany {
				t.Errorf("%d variables, %d nodes: code %d, %d nodes", vars, nodes, code, len(g.Nodes))
			}
		}
	}
	// By what is unfolded: as many, one more, and far more, all within the steps.
	for _, c := range []struct{ times, code int }{{60, 0}, {119, 0}, {120, 3}, {121, 3}} {
		p := mustProg(t, textWith("def m(a) = -a", "def n(a) = "+nested("m", c.times/2, "a"), "var x", nested("m", c.times-c.times/2, "n(x)")+" = x"))
		if g, code := checkGraph(t, p); code != c.code || code == 0 && len(g.Nodes) != c.times+1 {
			t.Errorf("%d times: code %d, %d nodes", c.times, code, len(g.Nodes))
		}
	}
	p := mustProg(t, textWith("def f(a) = "+long(80, "a"), "def g(a) = "+nested("f", 50, "a"), "var x", "g(g(x)) = x"))
	if g, code := impl.GraphOf(p); code != impl.GraphTooMany || !noGraph(g) || impl.GraphSteps(p) != 7902 {
		t.Errorf("far more nodes: code %d, %d steps", code, impl.GraphSteps(p))
	}
}

// Which code is told where two could be.
func TestCodesOfGraphs(t *testing.T) {
	many := []string{"var x", long(100, "x") + " = " + long(100, "1")}
	steps := append(doublings()[:11], "def e(a) = d10(d10(a))")
	for _, c := range []struct {
		want  int
		lines []string
	}{
		{0, []string{"var x", "x = 1"}}, {impl.GraphTooMany, many}, {impl.GraphTooLong, append(steps, "var x", "e(x) = x")}, {impl.GraphTooLong, append(steps, append(many, "e(x) = x")...)}, {impl.GraphTooLong, append(steps, "var x", "e(x) = x", strings.Join(many[1:], ""))},
	} {
		p := mustProg(t, textWith(c.lines...))
		if _, code := checkGraph(t, p); code != c.want {
			t.Errorf("GraphOf of %.300q: code %d, not %d", textOfProg(p), code, c.want)
		}
		// Whatever else it is: a problem that is not ok comes first.
		for _, list := range [][]spoil{spoils(), lesses()} {
			for _, way := range list {
				wrong := spoiled(p, way)
				if g, code := checkGraph(t, wrong); codeOfProg(wrong) != 0 && (code != impl.GraphBad || !noGraph(g)) {
					t.Errorf("GraphOf of %v: %v, code %d", wrong, g, code)
				}
			}
		}
	}
}

func TestGraphsOfSomeProblems(t *testing.T) {
	t.Parallel()
	s := spread{208}
	codes := map[int]int{}
	for at := range 400 {
		p := someProg(&s, []int{2, 6, 14, 30}[at%4])
		_, code := checkGraph(t, p)
		codes[code]++
	}
	if codes[0] < 150 || codes[impl.GraphTooLong] < 10 || codes[impl.GraphTooMany] < 50 {
		t.Errorf("only so many of each code: %v", codes)
	}
}
