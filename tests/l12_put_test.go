package tests

import (
	"slices"
	"strconv"
	"strings"
	"testing"

	"loop.example/pinfold/impl"
)

// checkPut holds what is put in against branches; it is nothing, if it would have too many nodes.
func checkPut(t *testing.T, term impl.Term, names []string, with []impl.Term) {
	t.Helper()
	var branches []branch
	for _, other := range with {
		grown, _ := branchOf(other)
		branches = append(branches, grown)
	}
	grown, _ := branchOf(term)
	want := grown.put(names, branches).term()
	if len(want.Nodes) > 100 {
		checkNoPut(t, term, names, with)
		return
	}
	if got, ok := impl.TermPut(term, names, with); !ok || !sameTerm(got, want) {
		t.Errorf("TermPut %v, %q, %v: %v, %v, not %v", term, names, with, got, ok, want)
	}
}

// checkPutText is told by texts: names and what comes in have = between.
func checkPutText(t *testing.T, text string, want string, pairs ...string) {
	t.Helper()
	var names []string
	var with []impl.Term
	for _, pair := range pairs {
		name, other, _ := strings.Cut(pair, "=")
		names = append(names, name)
		with = append(with, mustRead(t, other))
	}
	put, ok := impl.TermPut(mustRead(t, text), names, with)
	if got := impl.TermText(put); !ok || got != want {
		t.Errorf("TermPut %q, %q: %q, %v, not %q", text, pairs, got, ok, want)
	}
	checkPut(t, mustRead(t, text), names, with)
}

func TestTermsArePutIn(t *testing.T) {
	checkPutText(t, "x", "x")
	checkPutText(t, "x", "y", "x=y")
	checkPutText(t, "y", "y", "x=z")
	checkPutText(t, "1", "1", "x=z")
	checkPutText(t, "x * y", "(x + 1) * y", "x=x+1")
	checkPutText(t, "x - y", "1 - y - (z - x)", "x=1-y", "y=z-x")
	checkPutText(t, "x - y", "y - x", "x=y", "y=x")
	checkPutText(t, "x + y + z", "y + z + x", "x=y", "y=z", "z=x")
	checkPutText(t, "x + x", "y + z + (y + z)", "x=y+z")
	checkPutText(t, "-x^2", "-(-x)^2", "x=-x")
	checkPutText(t, "sqrt(x) + abs(x) + min(x, y) + max(y, x)", "sqrt(2) + abs(2) + min(2, y) + max(y, 2)", "x=2")
	checkPutText(t, "x1 + x + xy + abcdefgh", "x1 + 1 + xy + 2", "x=1", "abcdefgh=2", "abcdefg=3", "x12=4")
}

// Of a name that stands twice among the names the first one counts.
func TestNamesThatStandTwice(t *testing.T) {
	checkPutText(t, "x + y", "1 + y", "x=1", "x=2")
	checkPutText(t, "x + y", "2 + 3", "y=3", "x=2", "x=1", "y=4")
	checkPutText(t, "x - y * x", "1 + y - y * (1 + y)", "x=1+y", "x=x-y*x")
	checkPutText(t, "x", "x", "x=x", "x=y")
}

// A call keeps its name, whatever is put in; its arguments are put in.
func TestCallsKeepTheirNames(t *testing.T) {
	checkPutText(t, "f(x)", "f(x)", "f=y")
	checkPutText(t, "f(f)", "f(y)", "f=y")
	checkPutText(t, "f(x, g(x)) + x", "f(1, g(1)) + 1", "x=1", "f=2", "g=3")
	checkPutText(t, "x(x)", "x(x(1))", "x=x(1)")
	checkPutText(t, "x + f(x)", "f(x) + f(f(x))", "x=f(x)")
}

// Texts that are no names stand nowhere in a term, and change nothing.
func TestPutOfWhatIsNoName(t *testing.T) {
	for _, text := range append(wordsOfTheLanguage(), "", "1", "x ", "X", "abcdefghi", "\xff", "\x00", "x\x00", "2.5", "+", "f(x)") {
		for _, line := range []string{"x + f(1)", "1", "min(x, 2.5)", "sqrt(x)", "-x^2"} {
			term := mustRead(t, line)
			if put, ok := impl.TermPut(term, []string{text}, []impl.Term{nameOnly("z")}); !ok || !sameTerm(put, term) {
				t.Errorf("TermPut %q, %q: %v, %v", line, text, put, ok)
			}
		}
	}
}

func TestListsOfDifferentLengths(t *testing.T) {
	x := nameOnly("x")
	for names := range 6 {
		for terms := range 6 {
			list, with := slices.Repeat([]string{"x"}, names), slices.Repeat([]impl.Term{x}, terms)
			if names != terms {
				checkNoPut(t, x, list, with)
				continue
			}
			checkPut(t, x, list, with)
		}
	}
	checkNoPut(t, x, slices.Repeat([]string{"x"}, 100000), nil)
	checkNoPut(t, x, nil, slices.Repeat([]impl.Term{x}, 100000))
}

// Names are at most TermMaxNodes, whether they stand in the term or not.
func TestPutOfManyNames(t *testing.T) {
	for count := 98; count <= 103; count++ {
		var names []string
		var with []impl.Term
		for at := range count {
			names = append(names, "x"+strconv.Itoa(at))
			with = append(with, nameOnly("y"+strconv.Itoa(at)))
		}
		for _, term := range []impl.Term{nameOnly("x0"), nameOnly("x97"), nameOnly("z"), mustRead(t, "x0 + x97")} {
			if count > 100 {
				checkNoPut(t, term, names, with)
				continue
			}
			checkPut(t, term, names, with)
		}
	}
	checkNoPut(t, nameOnly("x"), slices.Repeat([]string{"x"}, 100000), slices.Repeat([]impl.Term{nameOnly("y")}, 100000))
}

// An answer of TermMaxNodes nodes is there, one of a node more is not.
func TestPutOfManyNodes(t *testing.T) {
	neg := bareNode(impl.TermNeg)
	for first := range 100 {
		for _, second := range []int{98 - first, 99 - first, 100 - first, 99} {
			if second < 0 || second > 99 {
				continue
			}
			term, with := chain(neg, first), chain(powNode(2), second)
			put, ok := impl.TermPut(term, []string{"x"}, []impl.Term{with})
			if ok != (first+second+1 <= 100) || ok && len(put.Nodes) != first+second+1 {
				t.Errorf("TermPut of %d and %d: %d nodes, %v", first, second, len(put.Nodes), ok)
			}
			checkPut(t, term, []string{"x"}, []impl.Term{with})
		}
	}
	// Fifty places and two nodes for each.
	places := leftward(50)
	checkPut(t, places, []string{"x"}, []impl.Term{nameOnly("y")})
	checkNoPut(t, places, []string{"x"}, []impl.Term{chain(neg, 1)})
	checkNoPut(t, places, []string{"x"}, []impl.Term{chain(neg, 99)})
	checkPut(t, places, []string{"y"}, []impl.Term{chain(neg, 99)})
	checkPut(t, mustRead(t, "a + b"), []string{"a", "b"}, []impl.Term{chain(neg, 48), chain(neg, 49)})
	checkNoPut(t, mustRead(t, "a + b"), []string{"a", "b"}, []impl.Term{chain(neg, 49), chain(neg, 49)})
}

func TestPutOfAllKinds(t *testing.T) {
	t.Parallel()
	s := spread{131}
	terms := someTerms(132, 3000)
	for at, term := range terms {
		var names []string
		var with []impl.Term
		for range s.next() % 5 {
			names = append(names, pick(&s, someNames()))
			with = append(with, terms[(at+int(s.next()%40))%len(terms)])
		}
		checkPut(t, term, names, with)
	}
}

func TestNamesOfTerms(t *testing.T) {
	for _, row := range [][2]string{
		{"1", ""}, {"x", "x"}, {"x + x", "x"}, {"y - x", "x y"}, {"x + f(y)", "f x y"}, {"f(1)", "f"}, {"f(f)", "f"}, {"f(f(x))", "f x"}, {"sqrt(abs(min(1, max(2, 3))))", ""}, {"sqrt(z)", "z"},
		{"xyz + xy + x + x1 + x12 + y", "x x1 x12 xy xyz y"}, {"aa + a + ab + a0 + a9 + b", "a a0 a9 aa ab b"}, {"minx + min(z, mi)", "mi minx z"}, {"abcdefgh(abcdefg)", "abcdefg abcdefgh"}, {"1e-3 * e", "e"}, {"-x^2", "x"}, {"z(y(x))", "x y z"},
	} {
		names := impl.TermNames(mustRead(t, row[0]))
		if got := strings.Join(names, " "); got != row[1] {
			t.Errorf("TermNames %q: %q, not %q", row[0], got, row[1])
		}
	}
	for _, term := range someTerms(133, 2000) {
		var want []string
		for _, node := range term.Nodes {
			if (node.Kind == impl.TermName || node.Kind == impl.TermCall) && !slices.Contains(want, node.Text) {
				want = append(want, node.Text)
			}
		}
		slices.Sort(want)
		if names := impl.TermNames(term); !slices.Equal(names, want) {
			t.Errorf("TermNames %v: %q, not %q", term, names, want)
		}
	}
}

func TestDepthsOfTerms(t *testing.T) {
	for _, row := range []struct {
		line  string
		depth int
	}{
		{"1", 1}, {"x", 1}, {"(((x)))", 1}, {"-x", 2}, {"---x", 4}, {"x + y", 2}, {"x + y + z", 3}, {"x + (y + z)", 3}, {"x * y + z * x", 3}, {"x - y * x", 3}, {"x^2", 2}, {"(x^2)^3", 3}, {"-x^2", 3}, {"sqrt(x)", 2}, {"abs(-x)", 3}, {"min(x, -y)", 3}, {"max(-x, y)", 3}, {"f(x, y, z)", 2}, {"f(x, y, -z)", 3}, {"f(--x, y, -z)", 4}, {"f(x, -x, x)", 3}, {"f(g(h(x)))", 4},
	} {
		if depth := impl.TermDepth(mustRead(t, row.line)); depth != row.depth {
			t.Errorf("TermDepth %q: %d, not %d", row.line, depth, row.depth)
		}
	}
	for count := range 100 {
		if depth := impl.TermDepth(chain(powNode(1), count)); depth != count+1 {
			t.Errorf("TermDepth of %d powers: %d", count, depth)
		}
	}
	for leaves := 1; leaves <= 50; leaves++ {
		if left, right := impl.TermDepth(leftward(leaves)), impl.TermDepth(rightward(leaves)); left != leaves || right != leaves {
			t.Errorf("TermDepth of %d leaves: %d and %d", leaves, left, right)
		}
	}
	for _, term := range someTerms(134, 2000) {
		grown, _ := branchOf(term)
		if depth := impl.TermDepth(term); depth != grown.depth() {
			t.Errorf("TermDepth %v: %d, not %d", term, depth, grown.depth())
		}
	}
}
