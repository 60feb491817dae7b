package tests

import (
	"math/big"
	"slices"
	"strconv"
	"strings"
	"testing"

	"loop.example/pinfold/impl"
)

// Slopes are held here against the document's two tables, written out as words that are gone through from the left on a stack of places; what they come to at a point is held against numbers that carry their slopes along.

// slopeWords are what is said of a node's slope: a, b and r are the places of its parts and of itself, a' and b' those of the parts' slopes, digits are laid down, and a sign is laid down over the last two places, or the last one. At ? it ends, if what stood last is 0. What stands last in the end is the slope.
func slopeWords(node impl.GraphNode, v int) string {
	switch {
	case node.Kind == impl.TermName && node.N == v:
		return "1"
	case node.Kind == impl.TermPow && node.N == 1:
		return "a'"
	case node.Kind == impl.TermPow && node.N > 1:
		return "a' ? " + strconv.Itoa(node.N) + " a ^" + strconv.Itoa(node.N-1) + " * a' *"
	}
	return map[int]string{
		impl.TermNumber: "0", impl.TermName: "0", impl.TermPow: "0", impl.TermNeg: "a' neg", impl.TermAdd: "a' b' +", impl.TermSub: "a' b' -",
		impl.TermMul: "a' b * a b' * +", impl.TermDiv: "a' b * a b' * - ? b ^2 /", impl.TermRoot: "a' ? 2 r * /",
	}[node.Kind]
}

// shortRow is a row of what is short: a sign, what stands to the left and to the right of it (nothing says anything), and which of both is left, - saying that a - comes ahead.
type shortRow struct{ sign, left, right, stays string }

func shortRows() []shortRow {
	return []shortRow{
		{"+", "0", "", "right"}, {"+", "", "0", "left"}, {"-", "", "0", "left"}, {"-", "0", "", "-right"}, {"neg", "0", "", "left"},
		{"*", "0", "", "left"}, {"*", "", "1", "left"}, {"*", "", "0", "right"}, {"*", "1", "", "right"}, {"/", "0", "", "left"}, {"^1", "", "", "left"},
	}
}

// signNode is a node by its sign.
func signNode(sign string, a int, b int) impl.GraphNode {
	if power, isPower := strings.CutPrefix(sign, "^"); isPower {
		n, _ := strconv.Atoi(power)
		return impl.GraphNode{Kind: impl.TermPow, A: a, N: n}
	}
	kind := map[string]int{"neg": impl.TermNeg, "+": impl.TermAdd, "-": impl.TermSub, "*": impl.TermMul, "/": impl.TermDiv}[sign]
	return impl.GraphNode{Kind: kind, A: a, B: b}
}

// slopePad is a list of nodes that grows by what is laid down.
type slopePad struct{ nodes []impl.GraphNode }

func (p *slopePad) put(node impl.GraphNode) int {
	at := slices.Index(p.nodes, node)
	if at < 0 {
		at = len(p.nodes)
		p.nodes = append(p.nodes, node)
	}
	return at
}

func (p *slopePad) putNumber(text string) int {
	return p.put(impl.GraphNode{Kind: impl.TermNumber, Text: text})
}

// isText says whether a number of just this text stands at a place; an empty text is any node's.
func (p *slopePad) isText(at int, text string) bool {
	return text == "" || p.nodes[at] == impl.GraphNode{Kind: impl.TermNumber, Text: text}
}

// signed is the place of a sign over places, as short as can be.
func (p *slopePad) signed(sign string, a int, b int) int {
	for _, row := range shortRows() {
		if row.sign != sign || !p.isText(a, row.left) || !p.isText(b, row.right) {
			continue
		}
		switch row.stays {
		case "left":
			return a
		case "right":
			return b
		}
		return p.signed("neg", b, 0)
	}
	return p.put(signNode(sign, a, b))
}

// slopeAt is the place of the slope of a node whose parts' slopes are known.
func (p *slopePad) slopeAt(at int, v int, known map[int]int) int {
	node := p.nodes[at]
	places := map[string]int{"a": node.A, "b": node.B, "r": at, "a'": known[node.A], "b'": known[node.B]}
	var stack []int
	for _, word := range strings.Fields(slopeWords(node, v)) {
		place, isPlace := places[word]
		top := len(stack) - 1
		switch {
		case isPlace:
			stack = append(stack, place)
		case word == "?" && p.isText(stack[top], "0"):
			return stack[top]
		case word == "?":
		case word[0] >= '0' && word[0] <= '9':
			stack = append(stack, p.putNumber(word))
		case word == "neg" || word[0] == '^':
			stack[top] = p.signed(word, stack[top], 0)
		default:
			stack = append(stack[:top-1], p.signed(word, stack[top-1], stack[top]))
		}
	}
	return stack[len(stack)-1]
}

// isMadeOf says for each node up to a place whether the one there is made of it.
func isMadeOf(nodes []impl.GraphNode, at int) []bool {
	made := make([]bool, at+1)
	made[at] = true
	for place := at; place >= 0; place-- {
		if made[place] {
			for _, part := range nodeParts(nodes[place]) {
				made[part] = true
			}
		}
	}
	return made
}

// slope is the place of the slope of a smooth node.
func (p *slopePad) slope(at int, v int) int {
	known := map[int]int{}
	for place, is := range isMadeOf(p.nodes, at) {
		if is {
			known[place] = p.slopeAt(place, v, known)
		}
	}
	return known[at]
}

// isSmoothAt is what SlopeSmooth should tell.
func isSmoothAt(g impl.Graph, at int) bool {
	if !isGraph(g) || at < 0 || at >= len(g.Nodes) {
		return false
	}
	for place, is := range isMadeOf(g.Nodes, at) {
		if is && slices.Contains([]int{impl.TermAbs, impl.TermMin, impl.TermMax}, g.Nodes[place].Kind) {
			return false
		}
	}
	return true
}

// grown is a graph with the nodes of a pad; false, if these are too many.
func (p *slopePad) grown(g impl.Graph) (impl.Graph, bool) {
	if len(p.nodes) > 120 {
		return impl.Graph{}, false
	}
	return impl.Graph{Vars: g.Vars, Nodes: p.nodes, Rels: g.Rels}, true
}

// slopeMade is what SlopeMake should tell.
func slopeMade(g impl.Graph, at int, v int) (impl.Graph, int, bool) {
	if !isSmoothAt(g, at) || v < 0 || v >= g.Vars {
		return impl.Graph{}, 0, false
	}
	pad := slopePad{slices.Clone(g.Nodes)}
	place := pad.slope(at, v)
	if made, fits := pad.grown(g); fits {
		return made, place, true
	}
	return impl.Graph{}, 0, false
}

// slopesOfRel is what SlopeRel should tell.
func slopesOfRel(g impl.Graph, rel int) (impl.Graph, int, []int, bool) {
	if !isGraph(g) || rel < 0 || rel >= len(g.Rels) || !isSmoothAt(g, g.Rels[rel].Left) || !isSmoothAt(g, g.Rels[rel].Right) {
		return impl.Graph{}, 0, nil, false
	}
	pad := slopePad{slices.Clone(g.Nodes)}
	at := pad.put(signNode("-", g.Rels[rel].Left, g.Rels[rel].Right))
	var places []int
	for v := range g.Vars {
		places = append(places, pad.slope(at, v))
	}
	if made, fits := pad.grown(g); fits {
		return made, at, places, true
	}
	return impl.Graph{}, 0, nil, false
}

// checkSlope holds SlopeMake and SlopeSmooth against what they should be.
func checkSlope(t *testing.T, g impl.Graph, at int, v int) (impl.Graph, int, bool) {
	t.Helper()
	if got, want := impl.SlopeSmooth(g, at), isSmoothAt(g, at); got != want {
		t.Errorf("SlopeSmooth of %.600v, %d: %v", g, at, got)
	}
	got, place, ok := impl.SlopeMake(g, at, v)
	want, wantPlace, wantOk := slopeMade(g, at, v)
	if ok != wantOk || place != wantPlace || !sameGraph(got, want) {
		t.Errorf("SlopeMake of %.600v, %d, %d: %q, %d, %v, not %q, %d, %v", g, at, v, impl.GraphText(got), place, ok, impl.GraphText(want), wantPlace, wantOk)
	}
	if ok != impl.GraphOk(got) {
		t.Errorf("SlopeMake of %.600v, %d, %d: %v is not ok", g, at, v, got)
	}
	return got, place, ok
}

// checkSlopeRel holds SlopeRel against what it should be.
func checkSlopeRel(t *testing.T, g impl.Graph, rel int) (impl.Graph, int, []int, bool) {
	t.Helper()
	got, at, places, ok := impl.SlopeRel(g, rel)
	want, wantAt, wantPlaces, wantOk := slopesOfRel(g, rel)
	if ok != wantOk || at != wantAt || !slices.Equal(places, wantPlaces) || !sameGraph(got, want) {
		t.Errorf("SlopeRel of %.600v, %d: %q, %d, %v, %v, not %q, %d, %v, %v", g, rel, impl.GraphText(got), at, places, ok, impl.GraphText(want), wantAt, wantPlaces, wantOk)
	}
	if ok != impl.GraphOk(got) {
		t.Errorf("SlopeRel of %.600v, %d: %v is not ok", g, rel, got)
	}
	return got, at, places, ok
}

// graphWith is the graph of lines that are parted by ;, over variables with these names.
func graphWith(t *testing.T, vars string, lines string) impl.Graph {
	t.Helper()
	var all []string
	for _, name := range strings.Fields(vars) {
		all = append(all, "var "+name)
	}
	return graphOfLines(t, append(all, strings.Split(lines, "; ")...)...)
}

// linesBehind are the lines of a graph's nodes from a place on, parted by ;.
func linesBehind(g impl.Graph, from int) string {
	return strings.Join(linesOf(textOfGraph(g))[from:len(g.Nodes)], "; ")
}

// onlyKinds is an ok graph whose nodes behind the variables are of these kinds, its numbers 0 and 1 in many ways among them.
func onlyKinds(s *spread, vars int, made int, kinds ...int) impl.Graph {
	g := varsGraph(vars, vars)
	for len(g.Nodes) < min(vars+made, 120) {
		node := someMade(s, len(g.Nodes))
		if node.Kind == impl.TermNumber {
			node.Text = pick(s, []string{"0", "1", "0.0", "1.0", "1e0", "2", "3", "0.5"})
		}
		if slices.Contains(kinds, node.Kind) && !slices.Contains(g.Nodes, node) {
			g.Nodes = append(g.Nodes, node)
		}
	}
	g.Rels = nil
	for range 1 + s.next()%4 {
		g.Rels = append(g.Rels, impl.GraphRel{Kind: 1 + int(s.next()%3), Left: len(g.Nodes) - 1 - int(s.next()%uint64(min(len(g.Nodes), 4))), Right: int(s.next() % uint64(len(g.Nodes)))})
	}
	return g
}

// wholeKinds are the kinds of which promise 51 speaks, with what they begin with.
func wholeKinds() []int {
	return []int{impl.TermNumber, impl.TermNeg, impl.TermAdd, impl.TermSub, impl.TermMul, impl.TermDiv, impl.TermPow}
}

// smoothKinds are these and the roots.
func smoothKinds() []int { return append(wholeKinds(), impl.TermRoot) }

// mixedGraph is by turns a graph of smooth kinds alone and one of any kinds, of several sizes.
func mixedGraph(s *spread, at int) impl.Graph {
	if at%2 == 0 {
		return onlyKinds(s, 1+at%6, []int{2, 5, 12, 30}[at/2%4], smoothKinds()...)
	}
	return someGraph(s, []int{0, 3, 8, 20, 60}[at/2%5])
}

// dual is a value and its slope.
type dual struct{ value, slope *big.Rat }

func timesRat(a *big.Rat, b *big.Rat) *big.Rat { return new(big.Rat).Mul(a, b) }
func lessRat(a *big.Rat, b *big.Rat) *big.Rat  { return new(big.Rat).Sub(a, b) }

// times is the product of two, the rest of second order left out.
func (d dual) times(other dual) dual {
	return dual{timesRat(d.value, other.value), new(big.Rat).Add(timesRat(d.value, other.slope), timesRat(d.slope, other.value))}
}

// dualOver is a node over its parts, all of which, and the node itself, have values.
func dualOver(node impl.GraphNode, of []dual, value *big.Rat) dual {
	switch node.Kind {
	case impl.TermNeg:
		return dual{value, negRat(of[0].slope)}
	case impl.TermAdd:
		return dual{value, new(big.Rat).Add(of[0].slope, of[1].slope)}
	case impl.TermSub:
		return dual{value, lessRat(of[0].slope, of[1].slope)}
	case impl.TermMul:
		return of[0].times(of[1])
	case impl.TermDiv:
		// What the quotient and the divisor make together is what is divided.
		return dual{value, new(big.Rat).Quo(lessRat(of[0].slope, timesRat(value, of[1].slope)), of[1].value)}
	case impl.TermPow:
		whole := dual{smallRat(1, 1), new(big.Rat)}
		for range node.N {
			whole = whole.times(of[0])
		}
		return whole
	case impl.TermRoot:
		return dual{value, new(big.Rat).Quo(of[0].slope, timesRat(smallRat(2, 1), value))}
	}
	return dual{value, new(big.Rat)}
}

// slopesAt are the slopes of the nodes up to a place by a variable at a point where all of them have values.
func slopesAt(g impl.Graph, at int, v int, all []outcome) []dual {
	var duals []dual
	for place, node := range g.Nodes[:at+1] {
		if place < g.Vars {
			duals = append(duals, dual{all[place].value, smallRat(0, 1)})
			if place == v {
				duals[place].slope = smallRat(1, 1)
			}
			continue
		}
		var of []dual
		for _, part := range nodeParts(node) {
			of = append(of, duals[part])
		}
		duals = append(duals, dualOver(node, of, all[place].value))
	}
	return duals
}
