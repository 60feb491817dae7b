package tests

import (
	"slices"
	"testing"

	"loop.example/pinfold/impl"
)

func checkOk(t *testing.T, term impl.Term, want bool) {
	t.Helper()
	if _, ok := branchOf(term); ok != want {
		t.Fatalf("the test itself has %v for %v", ok, term)
	}
	if impl.TermOk(term) != want {
		t.Errorf("TermOk %v: %v", term, !want)
	}
}

func TestKindsOfNodes(t *testing.T) {
	names := []int{impl.TermNumber, impl.TermName, impl.TermNeg, impl.TermAdd, impl.TermSub, impl.TermMul, impl.TermDiv, impl.TermPow, impl.TermRoot, impl.TermAbs, impl.TermMin, impl.TermMax, impl.TermCall}
	for at, kind := range names {
		if kind != at+1 {
			t.Errorf("kind %d: %d", at+1, kind)
		}
	}
}

// Each kind is ok as the table says, and is not with a field that the table does not give it, with other texts, or with another number of parts.
func TestTermsThatAreOk(t *testing.T) {
	for _, kind := range termKinds() {
		sample := sampleOf(kind)
		checkOk(t, sample, true)
		checkOk(t, over(bareNode(impl.TermNeg), sample), true)
		last := len(sample.Nodes) - 1
		for _, change := range []func(*impl.TermNode){
			func(n *impl.TermNode) { n.N += 100 }, func(n *impl.TermNode) { n.N -= 100 }, func(n *impl.TermNode) { n.Text += " " }, func(n *impl.TermNode) { n.Text = "def" }, func(n *impl.TermNode) { n.Kind += 100 }, func(n *impl.TermNode) { n.Kind = -n.Kind },
		} {
			wrong := impl.Term{Nodes: slices.Clone(sample.Nodes)}
			change(&wrong.Nodes[last])
			checkOk(t, wrong, false)
		}
		checkOk(t, impl.Term{Nodes: append(slices.Clone(sample.Nodes), nameNode("x"))}, false)
		checkOk(t, impl.Term{Nodes: append([]impl.TermNode{nameNode("x")}, sample.Nodes...)}, false)
		checkOk(t, impl.Term{Nodes: sample.Nodes[1:]}, false)
		checkOk(t, impl.Term{Nodes: sample.Nodes[:last]}, last == 1)
	}
}

func TestTermsThatAreNotOk(t *testing.T) {
	for _, wrong := range wrongTerms() {
		checkOk(t, wrong, false)
	}
}

func TestPowersAndCallsThatAreOk(t *testing.T) {
	for n := -20; n <= 20; n++ {
		checkOk(t, over(powNode(n), nameOnly("x")), n >= 0 && n <= 8)
		for count := range 9 {
			arguments := slices.Repeat([]impl.Term{nameOnly("x")}, count)
			checkOk(t, over(callNode("f", n), arguments...), n == count && n >= 1 && n <= 6)
		}
	}
}

func TestTextsOfNodesThatAreOk(t *testing.T) {
	for _, text := range append(noLiterals(), manyLiterals()[:200]...) {
		checkOk(t, termWith(numberNode(text)), isLiteral(text))
		checkOk(t, nameOnly(text), isName(text))
	}
	for _, text := range append(append(someNames(), someNumbers()...), wordsOfTheLanguage()...) {
		checkOk(t, termWith(numberNode(text)), isLiteral(text))
		checkOk(t, nameOnly(text), isName(text))
		checkOk(t, over(callNode(text, 1), nameOnly("x")), isName(text))
	}
}

// The number of nodes may be met exactly, however deep they stand.
func TestTermsOfMostNodes(t *testing.T) {
	for count := 90; count <= 110; count++ {
		for _, node := range []impl.TermNode{bareNode(impl.TermNeg), powNode(3), bareNode(impl.TermRoot), callNode("f", 1)} {
			checkOk(t, chain(node, count-1), count <= 100)
		}
		if count%2 == 1 {
			checkOk(t, leftward((count+1)/2), count <= 100)
			checkOk(t, rightward((count+1)/2), count <= 100)
		} else {
			checkOk(t, over(bareNode(impl.TermAbs), leftward(count/2)), count <= 100)
			checkOk(t, over(bareNode(impl.TermAbs), rightward(count/2)), count <= 100)
		}
		s := spread{uint64(count)}
		checkOk(t, someBranch(&s, count).term(), count <= 100)
	}
}

// All lists of a few nodes, in whatever order.
func TestShortListsOfNodes(t *testing.T) {
	t.Parallel()
	alphabet := []impl.TermNode{nameNode("x"), numberNode("1"), bareNode(impl.TermNeg), bareNode(impl.TermMul), powNode(0), bareNode(impl.TermMax), callNode("f", 1), callNode("f", 3)}
	lists := []impl.Term{{}}
	for from := 0; from < len(lists); from++ {
		_, want := branchOf(lists[from])
		if impl.TermOk(lists[from]) != want {
			t.Errorf("TermOk %v: %v", lists[from], !want)
		}
		if len(lists[from].Nodes) == 5 {
			continue
		}
		for _, node := range alphabet {
			lists = append(lists, impl.Term{Nodes: append(slices.Clone(lists[from].Nodes), node)})
		}
	}
}

// A term that is not ok has nothing, in each place where one is handed in.
func TestWrongTermsHaveNothing(t *testing.T) {
	good := nameOnly("x")
	for _, wrong := range wrongTerms() {
		if text := impl.TermText(wrong); text != "" {
			t.Errorf("TermText %v: %q", wrong, text)
		}
		if names := impl.TermNames(wrong); len(names) > 0 {
			t.Errorf("TermNames %v: %q", wrong, names)
		}
		if depth := impl.TermDepth(wrong); depth != 0 {
			t.Errorf("TermDepth %v: %d", wrong, depth)
		}
		checkNoPut(t, wrong, nil, nil)
		checkNoPut(t, wrong, []string{"x"}, []impl.Term{good})
		checkNoPut(t, good, []string{"x"}, []impl.Term{wrong})
		// One that does not come in is asked, too.
		checkNoPut(t, good, []string{"y"}, []impl.Term{wrong})
		checkNoPut(t, good, []string{"x", "x"}, []impl.Term{good, wrong})
		checkNoPut(t, good, []string{"y", "x", "z"}, []impl.Term{wrong, good, good})
		checkNoPut(t, good, []string{"y", "x", "z"}, []impl.Term{good, good, wrong})
	}
}

func checkNoPut(t *testing.T, term impl.Term, names []string, with []impl.Term) {
	t.Helper()
	if put, ok := impl.TermPut(term, names, with); ok || len(put.Nodes) > 0 {
		t.Errorf("TermPut %v, %q, %v: %v, %v", term, names, with, put, ok)
	}
}
