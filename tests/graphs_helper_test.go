package tests

import (
	"math/big"
	"slices"
	"strconv"
	"strings"
	"testing"

	"loop.example/pinfold/impl"
)

// Graphs are held here against branches with all bodies put in, grown to the last node, whose nodes are looked for one by one among those that are there; what is counted ahead is held against great numbers, which are reckoned once for the nodes of a body and once for each of its parameters.

func varNode(place int) impl.GraphNode { return impl.GraphNode{Kind: impl.TermName, N: place} }

func ownNode(node impl.GraphNode) impl.TermNode {
	return impl.TermNode{Kind: node.Kind, N: node.N, Text: node.Text}
}

func sameGraph(a impl.Graph, b impl.Graph) bool {
	return a.Vars == b.Vars && slices.Equal(a.Nodes, b.Nodes) && slices.Equal(a.Rels, b.Rels)
}

func noGraph(g impl.Graph) bool { return g.Vars == 0 && len(g.Nodes) == 0 && len(g.Rels) == 0 }

func copiedGraph(g impl.Graph) impl.Graph {
	return impl.Graph{Vars: g.Vars, Nodes: slices.Clone(g.Nodes), Rels: slices.Clone(g.Rels)}
}

// whole is a branch with all bodies put in, those of outer uses ahead of those of inner ones.
func (b branch) whole(p impl.Prog) branch {
	isNamed := b.node.Kind == impl.TermName || b.node.Kind == impl.TermCall
	if at := slices.Index(defNames(p), b.node.Text); isNamed && at >= 0 {
		body, _ := branchOf(p.Defs[at].Body)
		return body.put(p.Defs[at].Params, b.parts).whole(p)
	}
	out := branch{node: b.node}
	for _, part := range b.parts {
		out.parts = append(out.parts, part.whole(p))
	}
	return out
}

// weights are how many nodes of its own a definition has with all bodies put in, and how often each of its parameters stands there.
type weights struct {
	own  *big.Int
	each []*big.Int
}

// far is so much more than any limit that no more is told.
func far() *big.Int { return new(big.Int).Lsh(big.NewInt(1), 300) }

// weight is what a branch comes to with all bodies put in, a node of its own being worth so much, and names what they are worth.
func (b branch) weight(known map[string]weights, node int64, names map[string]int64) *big.Int {
	if worth, is := names[b.node.Text]; is {
		return big.NewInt(worth)
	}
	def, isUse := known[b.node.Text]
	sum := big.NewInt(node)
	if isUse {
		sum.Mul(sum, def.own)
	}
	for at, part := range b.parts {
		worth := part.weight(known, node, names)
		if isUse {
			worth.Mul(worth, def.each[at])
		}
		sum.Add(sum, worth)
	}
	if sum.Cmp(far()) > 0 {
		return far()
	}
	return sum
}

// worthOf are names of which one alone is worth something.
func worthOf(names []string, one string) map[string]int64 {
	worth := map[string]int64{}
	for _, name := range names {
		worth[name] = 0
		if name == one {
			worth[name] = 1
		}
	}
	return worth
}

// wantedSteps is what GraphSteps should tell.
func wantedSteps(p impl.Prog) int {
	if codeOfProg(p) != 0 {
		return 0
	}
	known := map[string]weights{}
	for _, name := range orderOf(p) {
		def := p.Defs[slices.Index(defNames(p), name)]
		body, _ := branchOf(def.Body)
		counted := weights{own: body.weight(known, 1, worthOf(def.Params, ""))}
		for _, param := range def.Params {
			counted.each = append(counted.each, body.weight(known, 0, worthOf(def.Params, param)))
		}
		known[name] = counted
	}
	sum := new(big.Int)
	for _, rel := range p.Rels {
		for _, side := range []impl.Term{rel.Left, rel.Right} {
			grown, _ := branchOf(side)
			sum.Add(sum, grown.weight(known, 1, nil))
		}
	}
	if sum.Cmp(big.NewInt(20001)) > 0 {
		return 20001
	}
	return int(sum.Int64())
}

// laidDown is the place of a branch among nodes, which grow by what is not there yet.
func laidDown(nodes *[]impl.GraphNode, vars []string, b branch) int {
	node := impl.GraphNode{Kind: b.node.Kind, N: b.node.N, Text: b.node.Text}
	if b.node.Kind == impl.TermName {
		node = varNode(slices.Index(vars, b.node.Text))
	}
	places := []int{0, 0}
	for at, part := range b.parts {
		places[at] = laidDown(nodes, vars, part)
	}
	node.A, node.B = places[0], places[1]
	if at := slices.Index(*nodes, node); at >= 0 {
		return at
	}
	*nodes = append(*nodes, node)
	return len(*nodes) - 1
}

// graphOf is what GraphOf should tell.
func graphOf(p impl.Prog) (impl.Graph, int) {
	if codeOfProg(p) != 0 {
		return impl.Graph{}, 1
	}
	if wantedSteps(p) > 20000 {
		return impl.Graph{}, 2
	}
	g := impl.Graph{Vars: len(p.Vars)}
	for at := range p.Vars {
		g.Nodes = append(g.Nodes, varNode(at))
	}
	for _, rel := range p.Rels {
		left, _ := branchOf(rel.Left)
		right, _ := branchOf(rel.Right)
		first := laidDown(&g.Nodes, p.Vars, left.whole(p))
		g.Rels = append(g.Rels, impl.GraphRel{Kind: rel.Kind, Left: first, Right: laidDown(&g.Nodes, p.Vars, right.whole(p))})
	}
	if len(g.Nodes) > 120 {
		return impl.Graph{}, 3
	}
	return g, 0
}

// isPartPlace says whether a field of a node is as it should be: a place ahead where there is a part, and 0 where there is none.
func isPartPlace(place int, isPart bool, at int) bool {
	if isPart {
		return place >= 0 && place < at
	}
	return place == 0
}

// isGraph is what GraphOk should tell.
func isGraph(g impl.Graph) bool {
	if g.Vars < 1 || g.Vars > 6 || len(g.Nodes) < g.Vars || len(g.Nodes) > 120 || len(g.Rels) < 1 || len(g.Rels) > 12 {
		return false
	}
	for at, node := range g.Nodes {
		parts := partsWanted(ownNode(node))
		isNamed := node.Kind == impl.TermName || node.Kind == impl.TermCall
		isMade := !isNamed && parts >= 0 && isPartPlace(node.A, parts > 0, at) && isPartPlace(node.B, parts > 1, at)
		if at < g.Vars {
			isMade = node == varNode(at)
		}
		if !isMade || slices.Index(g.Nodes, node) < at {
			return false
		}
	}
	for _, rel := range g.Rels {
		if rel.Kind < 1 || rel.Kind > 3 || min(rel.Left, rel.Right) < 0 || max(rel.Left, rel.Right) >= len(g.Nodes) {
			return false
		}
	}
	return true
}

// placeNames are what nodes are called by their places.
func placeNames(places ...int) []branch {
	var out []branch
	for _, place := range places {
		out = append(out, branch{node: nameNode("n" + strconv.Itoa(place))})
	}
	return out
}

// textOfGraph is what GraphText should tell of an ok graph.
func textOfGraph(g impl.Graph) string {
	var lines []string
	for at, node := range g.Nodes {
		own := ownNode(node)
		text := "var"
		if at >= g.Vars {
			text = branch{own, placeNames(node.A, node.B)[:partsWanted(own)]}.text()
		}
		lines = append(lines, placeNames(at)[0].text()+" = "+text)
	}
	for _, rel := range g.Rels {
		sides := placeNames(rel.Left, rel.Right)
		lines = append(lines, sides[0].text()+[]string{"", " <= ", " >= ", " = "}[rel.Kind]+sides[1].text())
	}
	return strings.Join(lines, "\n") + "\n"
}

// nodeParts are the places of a node's parts in an ok graph.
func nodeParts(node impl.GraphNode) []int {
	return []int{node.A, node.B}[:max(0, partsWanted(ownNode(node)))]
}

// branchAt is what a node of an ok graph stands for, and how many nodes that has; there is no branch, if these are more than 100.
func branchAt(g impl.Graph, at int, names []string) (branch, int) {
	sizes := make([]int, len(g.Nodes))
	grown := make([]branch, len(g.Nodes))
	for place, node := range g.Nodes[:at+1] {
		sizes[place] = 1
		grown[place] = branch{node: ownNode(node)}
		if place < g.Vars {
			grown[place].node = nameNode(names[place])
		}
		for _, part := range nodeParts(node) {
			sizes[place] = min(sizes[place]+sizes[part], 101)
			grown[place].parts = append(grown[place].parts, grown[part])
		}
	}
	if sizes[at] > 100 {
		return branch{}, sizes[at]
	}
	return grown[at], sizes[at]
}

// graphTermOf is what GraphTerm should tell.
func graphTermOf(g impl.Graph, at int, names []string) (impl.Term, bool) {
	noName := func(name string) bool { return !isName(name) }
	if !isGraph(g) || at < 0 || at >= len(g.Nodes) || len(names) != g.Vars || !areUnlike(names) || slices.ContainsFunc(names, noName) {
		return impl.Term{}, false
	}
	grown, size := branchAt(g, at, names)
	if size > 100 {
		return impl.Term{}, false
	}
	return grown.term(), true
}

// checkSteps wants a number of steps.
func checkSteps(t *testing.T, p impl.Prog) int {
	t.Helper()
	got := impl.GraphSteps(p)
	if want := wantedSteps(p); got != want {
		t.Errorf("GraphSteps of %.600q: %d, not %d", textOfProg(p), got, want)
	}
	return got
}

// checkGraph holds the steps and the graph of a problem against what they should be.
func checkGraph(t *testing.T, p impl.Prog) (impl.Graph, int) {
	t.Helper()
	checkSteps(t, p)
	got, code := impl.GraphOf(p)
	want, wantCode := graphOf(p)
	if code != wantCode || !sameGraph(got, want) {
		t.Errorf("GraphOf of %.600q: %v, %d, not %v, %d", textOfProg(p), got, code, want, wantCode)
	}
	if impl.GraphOk(got) != (code == 0) || (code == 0) == noGraph(got) {
		t.Errorf("GraphOk of %v, code %d: %v", got, code, impl.GraphOk(got))
	}
	return got, code
}

// checkOkGraph holds GraphOk and GraphText against what they should be.
func checkOkGraph(t *testing.T, g impl.Graph) bool {
	t.Helper()
	want, wantText := isGraph(g), ""
	if want {
		wantText = textOfGraph(g)
	}
	if got := impl.GraphOk(g); got != want {
		t.Errorf("GraphOk of %v: %v", g, got)
	}
	if text := impl.GraphText(g); text != wantText {
		t.Errorf("GraphText of %v: %q, not %q", g, text, wantText)
	}
	return want
}

func checkGraphTerm(t *testing.T, g impl.Graph, at int, names []string) (impl.Term, bool) {
	t.Helper()
	got, ok := impl.GraphTerm(g, at, names)
	want, wantOk := graphTermOf(g, at, names)
	if ok != wantOk || !sameTerm(got, want) {
		t.Errorf("GraphTerm of %.600v, %d, %.100q: %v, %v, not %v, %v", g, at, names, got, ok, want, wantOk)
	}
	return got, ok
}

// someMade is a node over places below one, late ones more often.
func someMade(s *spread, below int) impl.GraphNode {
	place := func() int {
		if s.next()%2 == 0 {
			return int(s.next() % uint64(below))
		}
		return below - 1 - int(s.next()%uint64(min(below, 3)))
	}
	row := pick(s, kindRows())
	for row.kind == impl.TermName {
		row = pick(s, kindRows())
	}
	node := impl.GraphNode{Kind: row.kind}
	switch {
	case row.kind == impl.TermNumber:
		node.Text = pick(s, someNumbers())
	case row.kind == impl.TermPow:
		node.N = int(s.next() % 9)
	}
	if row.parts > 0 {
		node.A = place()
	}
	if row.parts > 1 {
		node.B = place()
	}
	return node
}

// someGraph is an ok graph with so many nodes beside its variables.
func someGraph(s *spread, made int) impl.Graph {
	g := impl.Graph{Vars: 1 + int(s.next()%6)}
	for at := range g.Vars {
		g.Nodes = append(g.Nodes, varNode(at))
	}
	for len(g.Nodes) < min(g.Vars+made, 120) {
		if node := someMade(s, len(g.Nodes)); !slices.Contains(g.Nodes, node) {
			g.Nodes = append(g.Nodes, node)
		}
	}
	for range 1 + s.next()%12 {
		g.Rels = append(g.Rels, impl.GraphRel{Kind: 1 + int(s.next()%3), Left: int(s.next() % uint64(len(g.Nodes))), Right: int(s.next() % uint64(len(g.Nodes)))})
	}
	return g
}
