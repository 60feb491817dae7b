package tests

import (
	"regexp"
	"slices"
	"strconv"
	"strings"
	"testing"

	"loop.example/pinfold/impl"
)

func TestTextsOfGraphs(t *testing.T) {
	for _, c := range []struct {
		g    impl.Graph
		want string
	}{
		{kindsGraph(), textWith("n0 = var", "n1 = var", "n2 = 2.50e1", "n3 = -n1", "n4 = n0 + n3", "n5 = n4 - n1", "n6 = n5 * n5", "n7 = n6 / n2", "n8 = n7^8", "n9 = sqrt(n8)", "n10 = abs(n9)", "n11 = min(n10, n0)", "n12 = max(n1, n11)", "n12 <= n0", "n3 >= n12", "n5 = n5")},
		{leastGraph(), textWith("n0 = var", "n0 <= n0")},
		{varsGraph(6, 6), textWith("n0 = var", "n1 = var", "n2 = var", "n3 = var", "n4 = var", "n5 = var", "n0 <= n0")},
		{negated(2), textWith("n0 = var", "n1 = -n0", "n2 = -n1", "n0 <= n0")},
	} {
		if text := impl.GraphText(c.g); text != c.want {
			t.Errorf("GraphText of %v: %q, not %q", c.g, text, c.want)
		}
	}
	// Places of one, two and three digits.
	g := negated(119)
	g.Nodes[119] = impl.GraphNode{Kind: impl.TermDiv, A: 118, B: 9}
	g.Rels = []impl.GraphRel{{Kind: impl.ProgEqual, Left: 119, Right: 100}}
	text := impl.GraphText(g)
	for _, line := range []string{"n9 = -n8\n", "n10 = -n9\n", "n99 = -n98\n", "n100 = -n99\n", "n119 = n118 / n9\n", "\nn119 = n100\n"} {
		if !strings.Contains(text, line) {
			t.Errorf("GraphText has no %q: %q", line, text)
		}
	}
	// Powers of all exponents.
	for n := range impl.TermMaxPower + 1 {
		g := kindsGraph()
		g.Nodes[8].N = n
		if text := impl.GraphText(g); !strings.Contains(text, "\nn8 = n7^"+strconv.Itoa(n)+"\n") {
			t.Errorf("GraphText with the power %d: %q", n, text)
		}
	}
}

var nodeShapes = lineShapes()

// lineShapes are the forms of a node's line, by the kind that they make; n stands for a place.
func lineShapes() map[int]*regexp.Regexp {
	shapes := map[int]string{
		impl.TermNumber: `([0-9.e-]+)`, impl.TermNeg: `-n`, impl.TermAdd: `n \+ n`, impl.TermSub: `n - n`, impl.TermMul: `n \* n`, impl.TermDiv: `n / n`, impl.TermPow: `n\^([0-8])`, impl.TermRoot: `sqrt\(n\)`, impl.TermAbs: `abs\(n\)`, impl.TermMin: `min\(n, n\)`, impl.TermMax: `max\(n, n\)`,
	}
	out := map[int]*regexp.Regexp{}
	for kind, shape := range shapes {
		parts := strings.NewReplacer("min", "min", "n", `n(0|[1-9][0-9]*)`).Replace(shape)
		out[kind] = regexp.MustCompile(`\A` + parts + `\z`)
	}
	return out
}

// nodeOfLine is the node that a line of a graph says.
func nodeOfLine(at int, text string) (impl.GraphNode, bool) {
	if text == "var" {
		return varNode(at), true
	}
	for kind, shape := range nodeShapes {
		found := shape.FindStringSubmatch(text)
		if found == nil {
			continue
		}
		node := impl.GraphNode{Kind: kind}
		numbers := make([]int, 3)
		for place, piece := range found[1:] {
			numbers[place], _ = strconv.Atoi(piece)
		}
		switch {
		case kind == impl.TermNumber:
			node.Text = found[1]
		case kind == impl.TermPow:
			node.A, node.N = numbers[0], numbers[1]
		default:
			node.A, node.B = numbers[0], numbers[1]
		}
		return node, true
	}
	return impl.GraphNode{}, false
}

// graphOfText is the graph that a text says.
func graphOfText(text string) (impl.Graph, bool) {
	var g impl.Graph
	relation := regexp.MustCompile(`\An([0-9]+) (<=|>=|=) n([0-9]+)\z`)
	for at, line := range strings.Split(strings.TrimSuffix(text, "\n"), "\n") {
		if found := relation.FindStringSubmatch(line); found != nil {
			left, _ := strconv.Atoi(found[1])
			right, _ := strconv.Atoi(found[3])
			g.Rels = append(g.Rels, impl.GraphRel{Kind: 1 + slices.Index([]string{"<=", ">=", "="}, found[2]), Left: left, Right: right})
			continue
		}
		head := "n" + strconv.Itoa(at) + " = "
		node, is := nodeOfLine(at, strings.TrimPrefix(line, head))
		if !is || !strings.HasPrefix(line, head) || len(g.Rels) > 0 {
			return impl.Graph{}, false
		}
		if node.Kind == impl.TermName {
			g.Vars++
		}
		g.Nodes = append(g.Nodes, node)
	}
	return g, strings.HasSuffix(text, "\n")
}

// Promise 53: the text of an ok graph has a line for each node and each relation.
func TestTextsOfGraphsHaveALineForEach(t *testing.T) {
	t.Parallel()
	s := spread{211}
	for at := range 200 {
		g := someGraph(&s, []int{0, 3, 10, 119}[at%4])
		text := impl.GraphText(g)
		if strings.Count(text, "\n") != len(g.Nodes)+len(g.Rels) || strings.Count(text, " = var\n") != g.Vars {
			t.Errorf("GraphText of %v: %q", g, text)
		}
		// Each text tells its graph, so that unlike graphs have unlike texts.
		if back, is := graphOfText(text); !is || !sameGraph(back, g) {
			t.Errorf("GraphText of %v: %q, which says %v", g, text, back)
		}
	}
}

// Promise 53: unlike graphs have unlike texts.
func TestUnlikeGraphsHaveUnlikeTexts(t *testing.T) {
	t.Parallel()
	s := spread{212}
	unlike := 0
	for at := range 3000 {
		g := someGraph(&s, []int{0, 3, 10}[at%3])
		other := changedGraph(&s, g)
		if !isGraph(other) {
			continue
		}
		if !sameGraph(g, other) {
			unlike++
		}
		if sameGraph(g, other) != (impl.GraphText(g) == impl.GraphText(other)) {
			t.Errorf("%v and %v: %q", g, other, impl.GraphText(g))
		}
	}
	if unlike < 300 {
		t.Errorf("only %d that are unlike", unlike)
	}
}
