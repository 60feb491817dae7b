package tests

import (
	"math"
	"slices"
	"strconv"
	"strings"
	"testing"

	"loop.example/pinfold/impl"
)

// Terms are held here against branches, which are grown from the last node down, and written by the document's words on ( ).

// kindRow is a row of the table of kinds.
type kindRow struct {
	kind, parts int
	// how is the sign or the word by which the kind is written.
	how string
}

func kindRows() []kindRow {
	return []kindRow{
		{impl.TermNumber, 0, ""}, {impl.TermName, 0, ""}, {impl.TermNeg, 1, "-"}, {impl.TermAdd, 2, "+"}, {impl.TermSub, 2, "-"}, {impl.TermMul, 2, "*"}, {impl.TermDiv, 2, "/"}, {impl.TermPow, 1, "^"},
		{impl.TermRoot, 1, "sqrt"}, {impl.TermAbs, 1, "abs"}, {impl.TermMin, 2, "min"}, {impl.TermMax, 2, "max"},
	}
}

func rowOf(kind int) (kindRow, bool) {
	for _, row := range kindRows() {
		if row.kind == kind {
			return row, true
		}
	}
	return kindRow{}, false
}

// branch is a node with its parts.
type branch struct {
	node  impl.TermNode
	parts []branch
}

// partsWanted is how many parts a node has; -1, if it is not as the table of kinds says.
func partsWanted(node impl.TermNode) int {
	row, isRow := rowOf(node.Kind)
	switch {
	case node.Kind == impl.TermCall && isName(node.Text) && node.N >= 1 && node.N <= 6:
		return node.N
	case node.Kind == impl.TermNumber && isLiteral(node.Text) && node.N == 0, node.Kind == impl.TermName && isName(node.Text) && node.N == 0:
		return 0
	case node.Kind == impl.TermPow && node.Text == "" && node.N >= 0 && node.N <= 8:
		return 1
	case isRow && row.parts > 0 && row.how != "^" && node.Text == "" && node.N == 0:
		return row.parts
	}
	return -1
}

// lastBranch is the one that the last node is the whole of, and the nodes ahead of it.
func lastBranch(nodes []impl.TermNode) (branch, []impl.TermNode, bool) {
	if len(nodes) == 0 {
		return branch{}, nil, false
	}
	last := len(nodes) - 1
	grown := branch{node: nodes[last]}
	left := nodes[:last]
	count := partsWanted(nodes[last])
	for range max(count, 0) {
		part, ahead, ok := lastBranch(left)
		if !ok {
			return branch{}, nil, false
		}
		grown.parts = append([]branch{part}, grown.parts...)
		left = ahead
	}
	return grown, left, count >= 0
}

// branchOf is the branch of a term, and whether it should be ok.
func branchOf(t impl.Term) (branch, bool) {
	grown, left, ok := lastBranch(t.Nodes)
	return grown, ok && len(left) == 0 && len(t.Nodes) <= 100
}

// term is the nodes of a branch.
func (b branch) term() impl.Term {
	var t impl.Term
	for _, part := range b.parts {
		t.Nodes = append(t.Nodes, part.term().Nodes...)
	}
	t.Nodes = append(t.Nodes, b.node)
	return t
}

func (b branch) depth() int {
	deepest := 0
	for _, part := range b.parts {
		deepest = max(deepest, part.depth())
	}
	return deepest + 1
}

// put is the branch with others in the places of names, the first of a name counting.
func (b branch) put(names []string, with []branch) branch {
	for at, name := range names {
		if b.node.Kind == impl.TermName && b.node.Text == name {
			return with[at]
		}
	}
	out := branch{node: b.node}
	for _, part := range b.parts {
		out.parts = append(out.parts, part.put(names, with))
	}
	return out
}

func isSum(kind int) bool     { return kind == impl.TermAdd || kind == impl.TermSub }
func isProduct(kind int) bool { return kind == impl.TermMul || kind == impl.TermDiv }

// isBracketed says whether ( ) stand around a part, by the document's words.
func isBracketed(whole int, at int, part int) bool {
	signed := whole == impl.TermNeg
	switch {
	case whole == impl.TermPow:
		return isSum(part) || isProduct(part) || part == impl.TermNeg || part == impl.TermPow
	case isSum(part):
		return isProduct(whole) || signed || isSum(whole) && at == 1
	case isProduct(part):
		return isProduct(whole) && at == 1 || signed
	}
	return false
}

// text is the text of a branch.
func (b branch) text() string {
	kind := b.node.Kind
	texts := make([]string, len(b.parts))
	for at, part := range b.parts {
		texts[at] = part.text()
		if isBracketed(kind, at, part.node.Kind) {
			texts[at] = "(" + texts[at] + ")"
		}
	}
	row, _ := rowOf(kind)
	switch {
	case kind == impl.TermNumber || kind == impl.TermName:
		return b.node.Text
	case kind == impl.TermNeg:
		return "-" + texts[0]
	case kind == impl.TermPow:
		return texts[0] + "^" + strconv.Itoa(b.node.N)
	case isSum(kind) || isProduct(kind):
		return texts[0] + " " + row.how + " " + texts[1]
	}
	return b.node.Text + row.how + "(" + strings.Join(texts, ", ") + ")"
}

func numberNode(text string) impl.TermNode {
	return impl.TermNode{Kind: impl.TermNumber, Text: text}
}
func nameNode(text string) impl.TermNode { return impl.TermNode{Kind: impl.TermName, Text: text} }
func bareNode(kind int) impl.TermNode    { return impl.TermNode{Kind: kind} }
func powNode(n int) impl.TermNode        { return impl.TermNode{Kind: impl.TermPow, N: n} }
func callNode(name string, n int) impl.TermNode {
	return impl.TermNode{Kind: impl.TermCall, N: n, Text: name}
}

// termWith is a term of these nodes.
func termWith(nodes ...impl.TermNode) impl.Term { return impl.Term{Nodes: nodes} }

// nameOnly is a term of a name alone.
func nameOnly(name string) impl.Term { return termWith(nameNode(name)) }

// over is a node over terms as its parts.
func over(node impl.TermNode, parts ...impl.Term) impl.Term {
	var t impl.Term
	for _, part := range parts {
		t.Nodes = append(t.Nodes, part.Nodes...)
	}
	t.Nodes = append(t.Nodes, node)
	return t
}

func sameTerm(a impl.Term, b impl.Term) bool { return slices.Equal(a.Nodes, b.Nodes) }

// mustRead is the term of a text that is one.
func mustRead(t *testing.T, text string) impl.Term {
	t.Helper()
	read, code := impl.TermRead(text)
	if code != 0 || !impl.TermOk(read) {
		t.Fatalf("TermRead %q: %v, code %d", text, read, code)
	}
	return read
}

func someNames() []string {
	return []string{"x", "y", "z", "f", "g", "e", "x1", "xy", "x12", "abcdefgh", "minx"}
}

func someNumbers() []string {
	return []string{"0", "1", "2", "8", "9", "10", "2.5", "0.50", "1e-3", "1e0", "7e400", "0.25e-400", "12345678901234567890"}
}

// someNode is a node with so many parts.
func someNode(s *spread, parts int) impl.TermNode {
	if parts > 0 && (parts > 2 || s.next()%6 == 0) {
		return callNode(pick(s, someNames()), parts)
	}
	for {
		row := pick(s, kindRows())
		switch {
		case row.parts != parts:
			continue
		case row.kind == impl.TermNumber:
			return numberNode(pick(s, someNumbers()))
		case row.kind == impl.TermName:
			return nameNode(pick(s, someNames()))
		case row.kind == impl.TermPow:
			return powNode(int(s.next() % 9))
		}
		return bareNode(row.kind)
	}
}

// someBranch is one of just so many nodes.
func someBranch(s *spread, count int) branch {
	parts := min(count-1, []int{1, 1, 2, 2, 2, 2, 3, 6}[s.next()%8])
	out := branch{node: someNode(s, parts)}
	left := count - 1
	for at := range parts {
		behind := parts - at - 1
		size := left
		if behind > 0 {
			size = 1 + int(s.next()%uint64(left-behind))
		}
		out.parts = append(out.parts, someBranch(s, size))
		left -= size
	}
	return out
}

// someTerms are terms of all sizes, small ones more often.
func someTerms(seed uint64, count int) []impl.Term {
	s := spread{seed}
	var out []impl.Term
	for at := range count {
		size := 1 + int(s.next()%12)
		if at%4 == 0 {
			size = 1 + int(s.next()%100)
		}
		out = append(out, someBranch(&s, size).term())
	}
	return out
}

// inLimits says whether a text is a line that can be cut.
func inLimits(text string) bool {
	_, code := cutLine(text)
	return code == 0
}

// chain is a term of a name and so many nodes over it, one over the other.
func chain(node impl.TermNode, count int) impl.Term {
	t := nameOnly("x")
	for range count {
		t.Nodes = append(t.Nodes, node)
	}
	return t
}

// leftward is a sum of names that is deep in its first part, rightward one that is deep in its second part; both have an odd number of nodes.
func leftward(leaves int) impl.Term {
	t := nameOnly("x")
	for range leaves - 1 {
		t.Nodes = append(t.Nodes, nameNode("x"), bareNode(impl.TermSub))
	}
	return t
}

func rightward(leaves int) impl.Term {
	var t impl.Term
	for range leaves {
		t.Nodes = append(t.Nodes, nameNode("x"))
	}
	for range leaves - 1 {
		t.Nodes = append(t.Nodes, bareNode(impl.TermSub))
	}
	return t
}

// sampleOf is a term whose whole is of a kind.
func sampleOf(kind int) impl.Term {
	node := bareNode(kind)
	row, _ := rowOf(kind)
	switch kind {
	case impl.TermNumber:
		node.Text = "1"
	case impl.TermName:
		node.Text = "x"
	case impl.TermPow:
		node.N = 2
	case impl.TermCall:
		node.N, node.Text, row.parts = 2, "f", 2
	}
	return over(node, []impl.Term{nameOnly("x"), nameOnly("y")}[:row.parts]...)
}

// termKinds are all kinds of nodes.
func termKinds() []int {
	var kinds []int
	for kind := impl.TermNumber; kind <= impl.TermCall; kind++ {
		kinds = append(kinds, kind)
	}
	return kinds
}

// wrongFields are nodes that are not as the table of kinds says, by their fields.
func wrongFields() []impl.TermNode {
	var out []impl.TermNode
	for _, kind := range []int{math.MinInt, -13, -2, -1, 0, 14, 15, 100, math.MaxInt} {
		out = append(out, bareNode(kind), impl.TermNode{Kind: kind, Text: "x"}, impl.TermNode{Kind: kind, N: 1, Text: "f"})
	}
	for _, row := range kindRows() {
		for _, n := range []int{math.MinInt, -1, 1, 2, 9, math.MaxInt} {
			if row.parts > 0 && row.kind != impl.TermPow {
				out = append(out, impl.TermNode{Kind: row.kind, N: n})
			}
		}
		if row.parts > 0 {
			out = append(out, impl.TermNode{Kind: row.kind, Text: "x"}, impl.TermNode{Kind: row.kind, Text: row.how}, impl.TermNode{Kind: row.kind, Text: "1"}, impl.TermNode{Kind: row.kind, Text: " "})
		}
	}
	for _, n := range []int{math.MinInt, -1, 1, 2, math.MaxInt} {
		out = append(out, impl.TermNode{Kind: impl.TermNumber, N: n, Text: "1"}, impl.TermNode{Kind: impl.TermName, N: n, Text: "x"})
	}
	for _, n := range []int{math.MinInt, -8, -1, 9, 10, math.MaxInt} {
		out = append(out, powNode(n))
	}
	for _, n := range []int{math.MinInt, -6, -1, 0, 7, 8, 100, math.MaxInt} {
		out = append(out, callNode("f", n))
	}
	for _, text := range []string{"", "x", "-1", "1.", "00", "1e401", " 1", "1 ", "\xff", strings.Repeat("1", 61), "inf"} {
		out = append(out, numberNode(text))
	}
	for _, text := range append(wordsOfTheLanguage(), "", "1", "X", "abcdefghi", "x.y", " x", "x ", "\x00", "é") {
		out = append(out, nameNode(text), callNode(text, 1), callNode(text, 2))
	}
	return out
}

// wrongTerms are terms that are not ok, each in a way of its own.
func wrongTerms() []impl.Term {
	x, y := nameNode("x"), nameNode("y")
	out := []impl.Term{
		{}, termWith(x, y), termWith(x, y, x), termWith(x, bareNode(impl.TermNeg), y), termWith(x, y, bareNode(impl.TermAdd), x), termWith(x, y, bareNode(impl.TermNeg)), termWith(x, y, x, bareNode(impl.TermMin)),
		termWith(bareNode(impl.TermNeg)), termWith(bareNode(impl.TermAdd)), termWith(x, bareNode(impl.TermAdd)), termWith(powNode(2)), termWith(powNode(2), x), termWith(bareNode(impl.TermRoot), x), termWith(x, bareNode(impl.TermSub), y),
		termWith(callNode("f", 1)), termWith(x, callNode("f", 2)), termWith(x, y, callNode("f", 1)), termWith(x, y, callNode("f", 3)), termWith(bareNode(impl.TermAdd), x, y), termWith(x, y, bareNode(impl.TermAdd), bareNode(impl.TermMul)),
		chain(bareNode(impl.TermNeg), 100), chain(powNode(1), 100), chain(callNode("f", 1), 100), leftward(51), rightward(51), leftward(1000), chain(bareNode(impl.TermAbs), 1000),
	}
	for _, node := range wrongFields() {
		// With as many parts as it could be taken to have, from none to seven.
		for count := range 8 {
			out = append(out, over(node, slices.Repeat([]impl.Term{nameOnly("x")}, count)...))
		}
		out = append(out, over(bareNode(impl.TermAdd), nameOnly("x"), over(node, nameOnly("y"))), over(bareNode(impl.TermAdd), termWith(node), nameOnly("x")))
	}
	return out
}
