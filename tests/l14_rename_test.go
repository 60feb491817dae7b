package tests

import (
	"math"
	"strconv"
	"strings"
	"testing"

	"loop.example/pinfold/impl"
)

// renameCase is a text, a variable, its new name, and the text with that; none, if that is empty.
type renameCase struct {
	text, old, name, want string
}

func checkRenameCases(t *testing.T, cases []renameCase) {
	t.Helper()
	for _, c := range cases {
		got, ok := checkRename(t, mustProg(t, c.text), c.old, c.name)
		if text := impl.ProgText(got); text != c.want || ok != (c.want != "") {
			t.Errorf("ProgRename of %q, %q, %q: %q, %v, not %q", c.text, c.old, c.name, text, ok, c.want)
		}
	}
}

func TestVariablesWithOtherNames(t *testing.T) {
	checkRenameCases(t, []renameCase{
		{textWith("var x", "x = 1"), "x", "y", textWith("var y", "y = 1")},
		{textWith("var x", "var y", "x + y <= x * x", "y >= -x", "y = 1", "1 = 2"), "x", "z", textWith("var z", "var y", "z + y <= z * z", "y >= -z", "y = 1", "1 = 2")},
		{textWith("var x", "var y", "x + y <= x * x", "y >= -x", "y = 1", "1 = 2"), "y", "z", textWith("var x", "var z", "x + z <= x * x", "z >= -x", "z = 1", "1 = 2")},
		// One that no relation names.
		{textWith("var x", "var y", "x = 1"), "y", "a", textWith("var x", "var a", "x = 1")},
		// In arguments, beside names that begin alike.
		{textWith("def f(a, b) = a + b", "var x", "var x1", "var xx", "f(x, x1) = f(f(xx, x), abs(x)^2)"), "x", "w", textWith("def f(a, b) = a + b", "var w", "var x1", "var xx", "f(w, x1) = f(f(xx, w), abs(w)^2)")},
		// A parameter with the old name, or with the new one, stays what it is.
		{textWith("def f(x) = x^2 + g(x)", "def g(y) = -y", "var x", "f(x) = g(x)"), "x", "z", textWith("def f(x) = x^2 + g(x)", "def g(y) = -y", "var z", "f(z) = g(z)")},
		{textWith("def f(x) = x^2 + g(x)", "def g(y) = -y", "var x", "f(x) = g(x)"), "x", "y", textWith("def f(x) = x^2 + g(x)", "def g(y) = -y", "var y", "f(y) = g(y)")},
		// Names from one byte to eight, and the longest one's beginning.
		{textWith("var x", "x = 1"), "x", "abcdefgh", textWith("var abcdefgh", "abcdefgh = 1")},
		{textWith("var abcdefgh", "abcdefgh = 1"), "abcdefgh", "abcdefg", textWith("var abcdefg", "abcdefg = 1")},
		{textWith("var x", "x = 1"), "x", "minx", textWith("var minx", "minx = 1")},
		{textWith("var x", "x = 1"), "x", "x0", textWith("var x0", "x0 = 1")},
	})
}

// A relation of as many nodes as can be, all of them names that can be.
func TestVariablesOfLongTerms(t *testing.T) {
	for _, term := range []impl.Term{leftward(50), rightward(50), chain(bareNode(impl.TermNeg), 99)} {
		p := impl.Prog{Vars: []string{"y", "x"}, Rels: []impl.ProgRel{{Kind: 1, Left: term, Right: term}}}
		if _, ok := checkRename(t, p, "x", "z"); !ok {
			t.Errorf("ProgRename of %q", textOfProg(p))
		}
	}
}

func TestNamesThatCanNotBeGiven(t *testing.T) {
	p := mustProg(t, textWith("def f(a, x) = a + c", "def c = 1", "var x", "var y", "f(x, c) = y"))
	noNames := append(append(wordsOfTheLanguage(), allSigns()...), "", " ", "1", "2x", "X", "aB", "z.y", " z", "z ", "abcdefghi", "z\n", "\x00", "é", "\xff", "z_", strings.Repeat("z", 100000))
	for _, old := range p.Vars {
		// No names, and what a definition or a variable has, the old one too.
		for _, name := range append(noNames, "f", "c", "x", "y") {
			if got, ok := checkRename(t, p, old, name); ok || !isNothing(got) {
				t.Errorf("ProgRename %q %q: %v, %v", old, name, got, ok)
			}
		}
		for _, name := range []string{"a", "z", "ff", "x1"} {
			if _, ok := checkRename(t, p, old, name); !ok {
				t.Errorf("ProgRename %q %q", old, name)
			}
		}
	}
	// What is no variable: a definition's name, a parameter's, none at all.
	for _, old := range append(noNames, "f", "c", "a", "z", "xx") {
		for _, name := range []string{"z", "w", old, ""} {
			if got, ok := checkRename(t, p, old, name); ok || !isNothing(got) {
				t.Errorf("ProgRename %q %q: %v, %v", old, name, got, ok)
			}
		}
	}
}

// variables is a problem of so many variables, each in a relation.
func variables(t *testing.T, count int) impl.Prog {
	t.Helper()
	list := []string{"def f(x0) = x0 + 1"}
	for _, name := range numbered("x", count) {
		list = append(list, "var "+name, "f("+name+") <= x0")
	}
	return mustProg(t, textWith(list...))
}

func TestVariablesInAnotherOrder(t *testing.T) {
	for count := 1; count <= impl.ProgMaxVars; count++ {
		p := variables(t, count)
		for _, n := range []int{math.MinInt, -count - 1, -count, -1, 0, 1, 2, 3, 4, 5, count - 1, count, count + 1, 2 * count, 6, 7, math.MaxInt} {
			got, ok := checkShift(t, p, n)
			if ok != (n >= 0 && n < count) || ok == isNothing(got) {
				t.Errorf("ProgShift of %d variables, %d: %v, %v", count, n, got, ok)
			}
			if ok && impl.ProgCode(got) != 0 {
				t.Errorf("ProgShift of %d variables, %d: %v is not ok", count, n, got)
			}
		}
	}
	p := mustProg(t, textWith("def f(a) = a", "var c", "var a", "var b", "f(a) = b", "c <= a"))
	for n, want := range []string{"c a b", "a b c", "b c a"} {
		got, ok := checkShift(t, p, n)
		wantText := textWith("def f(a) = a", "var "+strings.ReplaceAll(want, " ", "\nvar "), "f(a) = b", "c <= a")
		if text := impl.ProgText(got); !ok || text != wantText {
			t.Errorf("ProgShift "+strconv.Itoa(n)+": %q, %v, not %q", text, ok, wantText)
		}
	}
}

func TestRenamesAndShiftsOfSomeProblems(t *testing.T) {
	t.Parallel()
	s := spread{195}
	for range 800 {
		p := someProg(&s, 1+int(s.next()%20))
		for n := -1; n <= len(p.Vars); n++ {
			checkShift(t, p, n)
		}
		for _, old := range append(defNames(p), "x", "y", "z", "a", "b", "u", "c", "") {
			checkRename(t, p, old, pick(&s, []string{"x", "y", "w", "c", "d", "abcdefgh", "e1", "f0", "f1", "f2", "f", "min", "", "X"}))
		}
	}
}
