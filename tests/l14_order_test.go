package tests

import (
	"slices"
	"strconv"
	"strings"
	"testing"

	"loop.example/pinfold/impl"
)

// withDefs is a problem of definitions and one relation that says nothing of them.
func withDefs(t *testing.T, defs ...string) impl.Prog {
	t.Helper()
	return mustProg(t, textWith(append(defs, "var x", "x = 1")...))
}

// checkOrderOf wants names with blanks between.
func checkOrderOf(t *testing.T, want string, defs ...string) {
	t.Helper()
	if got := strings.Join(checkDefOrder(t, withDefs(t, defs...)), " "); got != want {
		t.Errorf("ProgOrder of %q: %q, not %q", defs, got, want)
	}
}

func TestOrdersOfDefinitions(t *testing.T) {
	checkOrderOf(t, "")
	checkOrderOf(t, "f", "def f = 1")
	checkOrderOf(t, "f", "def f(a) = a + a")
	checkOrderOf(t, "f g", "def f = 1", "def g = 2")
	checkOrderOf(t, "g f", "def g = 2", "def f = 1")
	// Behind and ahead of what they use, as a name and as a call.
	checkOrderOf(t, "f g", "def f = 1", "def g = f")
	checkOrderOf(t, "f g", "def g = f", "def f = 1")
	checkOrderOf(t, "f g", "def f(a) = a", "def g(a) = f(a)")
	checkOrderOf(t, "f g", "def g(a) = f(a)", "def f(a) = a")
	// The first one is taken again each time, though it stands ahead of what was taken last.
	checkOrderOf(t, "c b a", "def a = b", "def b = c", "def c = 1")
	checkOrderOf(t, "b a d c", "def a = b", "def b = 1", "def c = d", "def d = 1")
	checkOrderOf(t, "b d c a", "def a = c", "def b = 1", "def c = d", "def d = 1")
	checkOrderOf(t, "b d c a", "def a = c", "def b = 1", "def c = d", "def d = b")
	checkOrderOf(t, "b c a d", "def a = b + c", "def b = 1", "def c = 2", "def d = 3")
	checkOrderOf(t, "b d c a", "def a = b + c", "def b = 1", "def c = d", "def d = 3")
	// By two ways.
	checkOrderOf(t, "d b c a", "def a = b + c", "def b = d", "def c = d", "def d = 1")
	checkOrderOf(t, "d b c a", "def d = 1", "def b = d", "def a = b + c + d", "def c = d")
}

// Several that are free at once, and several that wait for one another, in each order of their places.
func TestOrdersOfDefinitionsInEachPlace(t *testing.T) {
	sets := [][]string{
		{"def a = 1", "def b(p) = p", "def c = 3", "def d(p) = p^2"},
		{"def a = b + c", "def b = 1", "def c = 2", "def d = 3"},
		{"def a = b(c)", "def b(p) = p", "def c = b(2)", "def d = 3"},
		{"def a = b", "def b = c", "def c = d", "def d = 1"},
		{"def a = b + c", "def b = d", "def c = d", "def d = 1"},
		{"def a(p) = b(p)", "def b(p) = p", "def c(p) = d(d(p))", "def d(p) = p"},
		{"def a = d", "def b = d", "def c = d", "def d = 1", "def e = a + b + c"},
	}
	for at, set := range sets {
		permuted(set, 0, func(order []string) {
			p := withDefs(t, order...)
			told := checkDefOrder(t, p)
			for _, name := range defNames(p) {
				checkUses(t, p, name)
			}
			if at == 0 && !slices.Equal(told, defNames(p)) {
				t.Errorf("all are free in %q, but told %v", order, told)
			}
		})
	}
}

// chainOf are definitions of which each uses the one behind it.
func chainOf(count int) []string {
	var defs []string
	for at := range count {
		body := "1"
		if at+1 < count {
			body = "c" + strconv.Itoa(at+1)
		}
		defs = append(defs, "def c"+strconv.Itoa(at)+" = "+body)
	}
	return defs
}

func TestOrdersOfAsManyDefinitionsAsCanBe(t *testing.T) {
	defs := chainOf(impl.ProgMaxDefs)
	names := numbered("c", impl.ProgMaxDefs)
	slices.Reverse(names)
	checkOrderOf(t, strings.Join(names, " "), defs...)
	if got := checkUses(t, withDefs(t, defs...), "c0"); len(got) != impl.ProgMaxDefs-1 {
		t.Errorf("ProgUses: %v", got)
	}
	slices.Reverse(defs)
	checkOrderOf(t, strings.Join(names, " "), defs...)
	s := spread{191}
	for range 50 {
		checkOrderOf(t, strings.Join(names, " "), shuffled(&s, defs)...)
	}
	var free []string
	for _, name := range numbered("c", impl.ProgMaxDefs) {
		free = append(free, "def "+name+" = 1")
	}
	checkOrderOf(t, strings.Join(numbered("c", impl.ProgMaxDefs), " "), free...)
}

// checkUsesOf wants names with blanks between.
func checkUsesOf(t *testing.T, p impl.Prog, name string, want string) {
	t.Helper()
	if got := strings.Join(checkUses(t, p, name), " "); got != want {
		t.Errorf("ProgUses of %q, %q: %q, not %q", textOfProg(p), name, got, want)
	}
}

func TestWhatDefinitionsUse(t *testing.T) {
	p := withDefs(t, "def top(a) = mid(a) + z9 + z10", "def mid(q) = low(q, q) * low(1, q)", "def low(a, b) = a - b", "def z9 = low(1, 2)", "def z10 = 1", "def z = z10", "def lone(x, y) = x + y")
	// By others, by two ways, ascending byte by byte, each once; variables and parameters are none.
	checkUsesOf(t, p, "top", "low mid z10 z9")
	checkUsesOf(t, p, "mid", "low")
	checkUsesOf(t, p, "low", "")
	checkUsesOf(t, p, "z9", "low")
	checkUsesOf(t, p, "z10", "")
	checkUsesOf(t, p, "z", "z10")
	checkUsesOf(t, p, "lone", "")
	// Names of none: a variable's, parameters', the language's, and what is no name at all.
	for _, name := range append(wordsOfTheLanguage(), "x", "a", "q", "nope", "", " ", "low ", "LOW", "lo", "low(a, b)", "1", "\x00", "z1", strings.Repeat("low", 100000)) {
		if got := impl.ProgUses(p, name); len(got) != 0 {
			t.Errorf("ProgUses of %q: %v", name, got)
		}
	}
	// Relations use, but no definition uses by them.
	q := mustProg(t, textWith("def f = 1", "def g(a) = a", "var x", "g(f) = x", "f <= g(f)"))
	checkUsesOf(t, q, "f", "")
	checkUsesOf(t, q, "g", "")
	checkUsesOf(t, q, "x", "")
	// Arguments are used by who hands them on, not by who takes them, though the body has no use for them.
	r := withDefs(t, "def f(a) = 1", "def g = f(h)", "def h = 2")
	checkUsesOf(t, r, "g", "f h")
	checkUsesOf(t, r, "f", "")
	checkOrderOf(t, "f h g", "def f(a) = 1", "def g = f(h)", "def h = 2")
	checkUsesOf(t, mustProg(t, textWith("var x", "x = 1")), "x", "")
}

func TestOrdersAndUsesOfSomeProblems(t *testing.T) {
	t.Parallel()
	s := spread{192}
	for range 1500 {
		p := someProg(&s, 1+int(s.next()%12))
		checkDefOrder(t, p)
		for _, name := range append(defNames(p), "x", "a", "nope", "") {
			checkUses(t, p, name)
		}
	}
}
