package tests

import (
	"math"
	"strings"
	"testing"

	"loop.example/pinfold/impl"
)

func TestTermsOfGraphs(t *testing.T) {
	g := kindsGraph()
	for at, want := range []string{
		"u", "v", "2.50e1", "-v", "u + -v", "u + -v - v", "(u + -v - v) * (u + -v - v)", "(u + -v - v) * (u + -v - v) / 2.50e1", "((u + -v - v) * (u + -v - v) / 2.50e1)^8", "sqrt(((u + -v - v) * (u + -v - v) / 2.50e1)^8)", "abs(sqrt(((u + -v - v) * (u + -v - v) / 2.50e1)^8))", "min(abs(sqrt(((u + -v - v) * (u + -v - v) / 2.50e1)^8)), u)", "max(v, min(abs(sqrt(((u + -v - v) * (u + -v - v) / 2.50e1)^8)), u))",
	} {
		got, ok := checkGraphTerm(t, g, at, []string{"u", "v"})
		if text := impl.TermText(got); !ok || text != want {
			t.Errorf("GraphTerm at %d: %q, %v, not %q", at, text, ok, want)
		}
		if text := impl.TermText(mustTermAt(t, g, at, []string{"v", "u"})); text != strings.NewReplacer("u", "v", "v", "u").Replace(want) {
			t.Errorf("GraphTerm at %d with names the other way round: %q", at, text)
		}
	}
	// A variable's name may be one that nodes have in texts, or anything else that is a name.
	for _, name := range []string{"n0", "n1", "a", "abcdefgh", "x1", "mini", "e5"} {
		if got := mustTermAt(t, negated(1), 1, []string{name}); !sameTerm(got, over(bareNode(impl.TermNeg), nameOnly(name))) {
			t.Errorf("GraphTerm with %q: %v", name, got)
		}
	}
}

func mustTermAt(t *testing.T, g impl.Graph, at int, names []string) impl.Term {
	t.Helper()
	got, ok := checkGraphTerm(t, g, at, names)
	if !ok || !impl.TermOk(got) {
		t.Errorf("GraphTerm of %v, %d, %q: %v, %v", g, at, names, got, ok)
	}
	return got
}

// wantNoTerm wants nothing and false.
func wantNoTerm(t *testing.T, g impl.Graph, at int, names []string) {
	t.Helper()
	if got, ok := checkGraphTerm(t, g, at, names); ok || len(got.Nodes) > 0 {
		t.Errorf("GraphTerm of %v, %d, %.100q: %v, %v", g, at, names, got, ok)
	}
}

func TestTermsAtPlacesThatAreNone(t *testing.T) {
	for _, g := range []impl.Graph{kindsGraph(), leastGraph(), negated(119), varsGraph(6, 6)} {
		names := numbered("v", g.Vars)
		for _, at := range []int{math.MinInt, -len(g.Nodes), -2, -1, len(g.Nodes), len(g.Nodes) + 1, 120, 121, math.MaxInt} {
			wantNoTerm(t, g, at, names)
		}
	}
}

func TestTermsWithNamesThatDoNotFit(t *testing.T) {
	for count := 1; count <= impl.ProgMaxVars; count++ {
		g := varsGraph(count, count)
		for given := range 10 {
			for at := range count {
				if names := numbered("v", given); given == count {
					mustTermAt(t, g, at, names)
				} else {
					wantNoTerm(t, g, at, names)
				}
			}
		}
		wantNoTerm(t, g, 0, nil)
		wantNoTerm(t, g, 0, numbered("v", 100000)[:50000])
		for first := range count {
			for _, wrong := range append(append(wordsOfTheLanguage(), allSigns()...), "", " ", "1", "2x", "X", "x.y", " x", "x ", "abcdefghi", "x\n", "\x00", "é", strings.Repeat("x", 100000)) {
				names := numbered("v", count)
				names[first] = wrong
				for at := range count {
					wantNoTerm(t, g, at, names)
				}
			}
			for second := range first {
				names := numbered("v", count)
				names[first] = names[second]
				for at := range count {
					wantNoTerm(t, g, at, names)
				}
			}
		}
	}
	// Also where the node has none of the names in it.
	wantNoTerm(t, kindsGraph(), 2, []string{"u"})
	wantNoTerm(t, kindsGraph(), 2, []string{"u", "u"})
	wantNoTerm(t, kindsGraph(), 2, []string{"u", "min"})
	wantNoTerm(t, kindsGraph(), 2, []string{"u", "v", "w"})
}

func TestTermsOfAsManyNodesAsCanBe(t *testing.T) {
	x := []string{"x"}
	// One over the other: a node more at each place.
	g := negated(119)
	for at := range g.Nodes {
		if at < impl.TermMaxNodes {
			if got := mustTermAt(t, g, at, x); len(got.Nodes) != at+1 {
				t.Errorf("at %d: %d nodes", at, len(got.Nodes))
			}
		} else {
			wantNoTerm(t, g, at, x)
		}
	}
	// Each twice the one ahead: 2, 4, 8 .. leaves, to far more than can be counted by going through them.
	g = leastGraph()
	for at := range 118 {
		g.Nodes = append(g.Nodes, impl.GraphNode{Kind: impl.TermAdd, A: at, B: at})
	}
	g.Nodes = append(g.Nodes, impl.GraphNode{Kind: impl.TermNumber, Text: "1"})
	for at := range 119 {
		if at <= 5 {
			if got := mustTermAt(t, g, at, x); len(got.Nodes) != 1<<(at+1)-1 {
				t.Errorf("at %d: %d nodes", at, len(got.Nodes))
			}
		} else {
			wantNoTerm(t, g, at, x)
		}
	}
	// What is behind them, and not made of them, is there.
	mustTermAt(t, g, 119, x)
	g.Nodes[119] = impl.GraphNode{Kind: impl.TermMul, A: 5, B: 4}
	mustTermAt(t, g, 119, x)
	for _, node := range []impl.GraphNode{{Kind: impl.TermMul, A: 118, B: 0}, {Kind: impl.TermMul, A: 0, B: 118}, {Kind: impl.TermNeg, A: 6}, {Kind: impl.TermMul, A: 5, B: 5}, {Kind: impl.TermMul, A: 0, B: 6}, {Kind: impl.TermMul, A: 6, B: 0}} {
		g.Nodes[119] = node
		wantNoTerm(t, g, 119, x)
	}
	// Two parts, and one over both: the one at a place has a node more than that.
	for _, c := range []struct {
		a, b int
		fits bool
	}{{48, 48, true}, {48, 49, true}, {49, 48, true}, {49, 49, false}, {97, 0, true}, {0, 97, true}, {97, 1, false}, {98, 0, false}, {0, 98, false}, {99, 0, false}, {49, 50, false}, {99, 99, false}} {
		g := negated(100)
		g.Nodes = append(g.Nodes, impl.GraphNode{Kind: impl.TermSub, A: c.a, B: c.b})
		if c.fits {
			mustTermAt(t, g, 101, x)
		} else {
			wantNoTerm(t, g, 101, x)
		}
	}
}

func TestTermsOfSomeGraphs(t *testing.T) {
	t.Parallel()
	s := spread{213}
	fit, beyond := 0, 0
	for at := range 120 {
		g := someGraph(&s, []int{2, 10, 40, 119}[at%4])
		names := shuffled(&s, []string{"x", "y", "z", "n1", "n0", "u"})[:g.Vars]
		for place := range g.Nodes {
			if _, ok := checkGraphTerm(t, g, place, names); ok {
				fit++
			} else {
				beyond++
			}
		}
	}
	if fit < 1500 || beyond < 1000 {
		t.Errorf("only %d that fit, and %d beyond the limit", fit, beyond)
	}
}
