package tests

import (
	"slices"
	"strings"
	"testing"

	"loop.example/pinfold/impl"
)

// inlineCase is a text, a definition's name, and the text with it put in; none, if that is empty.
type inlineCase struct {
	text, name, want string
}

func checkInlineCases(t *testing.T, cases []inlineCase) {
	t.Helper()
	for _, c := range cases {
		p := mustProg(t, c.text)
		got, ok := checkInline(t, p, c.name)
		if text := impl.ProgText(got); text != c.want || ok != (c.want != "") {
			t.Errorf("ProgInline of %q, %q: %q, %v, not %q", c.text, c.name, text, ok, c.want)
		}
	}
}

func TestBodiesInThePlacesOfUses(t *testing.T) {
	checkInlineCases(t, []inlineCase{
		// Used not at all, once, and twice in one term.
		{textWith("def f(a) = a + 1", "var x", "x = 2"), "f", textWith("var x", "x = 2")},
		{textWith("def c = 3", "var x", "x = 2"), "c", textWith("var x", "x = 2")},
		{textWith("def f(a) = a + 1", "var x", "f(x) = 2"), "f", textWith("var x", "x + 1 = 2")},
		{textWith("def f(a) = a + 1", "var x", "2 <= f(x)"), "f", textWith("var x", "2 <= x + 1")},
		{textWith("def f(a) = a + 1", "var x", "f(x) * f(2) >= f(3)"), "f", textWith("var x", "(x + 1) * (2 + 1) >= 3 + 1")},
		// Within its own arguments.
		{textWith("def f(a) = a + 1", "var x", "f(f(x)) = 2"), "f", textWith("var x", "x + 1 + 1 = 2")},
		{textWith("def f(a, b) = a - b", "var x", "f(f(x, 1), f(2, f(x, x))) = 2"), "f", textWith("var x", "x - 1 - (2 - (x - x)) = 2")},
		{textWith("def f(a) = a^2", "var x", "f(-f(f(x) + f(1))) = 2"), "f", textWith("var x", "(-(x^2 + 1^2)^2)^2 = 2")},
		// As a name, in bodies and in relations.
		{textWith("def c = 1 + 2", "def g(a) = a * c", "var x", "g(c) = c"), "c", textWith("def g(a) = a * (1 + 2)", "var x", "g(1 + 2) = 1 + 2")},
		{textWith("def g = c^2", "def c = 1 + 2", "def h = -c", "var x", "c - c <= x"), "c", textWith("def g = (1 + 2)^2", "def h = -(1 + 2)", "var x", "1 + 2 - (1 + 2) <= x")},
		{textWith("def c = 1", "var x", "c = x"), "c", textWith("var x", "1 = x")},
		// A body that names a parameter not at all, once and more than once, and parameters in another order.
		{textWith("def k(a) = 1", "var x", "k(x + x) = k(k(x))"), "k", textWith("var x", "1 = 1")},
		{textWith("def k(a, b) = b", "var x", "k(x, 2) = k(k(1, 2), k(3, k(4, x)))"), "k", textWith("var x", "2 = x")},
		{textWith("def f(a, b) = b - a", "var x", "var y", "f(x, y) = f(y, x)"), "f", textWith("var x", "var y", "y - x = x - y")},
		{textWith("def f(a, b) = a * b + a * b^2", "var x", "f(x + 1, -x) = 0"), "f", textWith("var x", "(x + 1) * -x + (x + 1) * (-x)^2 = 0")},
		// A body that is one node: a number, a parameter, a name of another definition.
		{textWith("def i(a) = a", "var x", "i(i(x)) + i(2) = i(x * x)"), "i", textWith("var x", "x + 2 = x * x")},
		{textWith("def n = c", "def c = 7", "def f(a) = n + a", "var x", "f(n) = c"), "n", textWith("def c = 7", "def f(a) = c + a", "var x", "f(c) = c")},
		{textWith("def n = c", "def c = 7", "def f(a) = n + a", "var x", "f(n) = c"), "c", textWith("def n = 7", "def f(a) = n + a", "var x", "f(n) = 7")},
		// All kinds of nodes stay around it.
		{textWith("def f(a) = a", "def g(a, b) = a", "var x", "sqrt(f(x)) + abs(f(1)) / min(f(2), f(x)) - max(f(x), f(3)) * -f(x)^4 = g(f(x), f(2.50e1))"), "f", textWith("def g(a, b) = a", "var x", "sqrt(x) + abs(1) / min(2, x) - max(x, 3) * -x^4 = g(x, 2.50e1)")},
	})
}

// Parameters are put in all at once, whatever arguments name.
func TestArgumentsThatNameParameters(t *testing.T) {
	checkInlineCases(t, []inlineCase{
		{textWith("def f(a, b) = a - b", "def g(a, b) = f(b, a)", "var x", "g(1, x) = 2"), "f", textWith("def g(a, b) = b - a", "var x", "g(1, x) = 2")},
		{textWith("def f(a, b) = a - b", "def g(b) = f(b, b + 1)", "var x", "g(x) = 2"), "f", textWith("def g(b) = b - (b + 1)", "var x", "g(x) = 2")},
		{textWith("def f(x, y) = x / y", "var x", "var y", "f(y, x) = f(x + y, f(y, 1))"), "f", textWith("var x", "var y", "y / x = (x + y) / (y / 1)")},
		{textWith("def f(a) = a + c", "def c = 2", "def g(b) = f(c) + f(b)", "var x", "g(f(c)) = f(x)"), "f", textWith("def c = 2", "def g(b) = c + c + (b + c)", "var x", "g(c + c) = x + c")},
		{textWith("def f(a, b, c, d, e, g) = a + b * c - d / e + g", "var x", "f(1, 2, 3, 4, 5, 6) = f(x, f(6, 5, 4, 3, 2, 1), x, x, x, x)"), "f", textWith("var x", "1 + 2 * 3 - 4 / 5 + 6 = x + (6 + 5 * 4 - 3 / 2 + 1) * x - x / x + x")},
	})
}

// What else there is stays as it is, in its order.
func TestWhatAnInlineLeaves(t *testing.T) {
	whole := map[string]string{"f": "def f(a) = a + 1", "c": "def c = f(2)", "g": "def g(a, b) = f(a) - c"}
	left := map[string]map[string]string{
		"f": {"c": "def c = 2 + 1", "g": "def g(a, b) = a + 1 - c"},
		"c": {"f": "def f(a) = a + 1", "g": "def g(a, b) = f(a) - f(2)"},
		"g": {"f": "def f(a) = a + 1", "c": "def c = f(2)"},
	}
	rels := map[string][]string{
		"f": {"g(x, y) <= 1", "x + 1 >= c", "1 = 1", "1 = 1"},
		"c": {"g(x, y) <= 1", "f(x) >= f(2)", "1 = 1", "1 = 1"},
		"g": {"f(x) - c <= 1", "f(x) >= c", "1 = 1", "1 = 1"},
	}
	permuted([]string{"f", "c", "g"}, 0, func(order []string) {
		for _, name := range order {
			var text, want []string
			for _, other := range order {
				text = append(text, whole[other])
				if other != name {
					want = append(want, left[name][other])
				}
			}
			text = append(text, "var y", "var x", "g(x, y) <= 1", "f(x) >= c", "1 = 1", "1 = 1")
			want = append(append(want, "var y", "var x"), rels[name]...)
			checkInlineCases(t, []inlineCase{{textWith(text...), name, textWith(want...)}})
		}
	})
}

// Names that are no definition's.
func TestInlinesOfNoDefinition(t *testing.T) {
	p := mustProg(t, textWith("def f(a, x) = a + c", "def c = 1", "var x", "f(x, c) = sqrt(x)"))
	for _, name := range append(wordsOfTheLanguage(), "x", "a", "nope", "", " ", "f ", "F", "1", "ff", "\x00", "+", strings.Repeat("f", 100000)) {
		if got, ok := checkInline(t, p, name); ok || !isNothing(got) {
			t.Errorf("ProgInline of %q: %v, %v", name, got, ok)
		}
	}
	none := mustProg(t, textWith("var f", "f = 1"))
	for _, name := range []string{"f", "x", ""} {
		if got, ok := checkInline(t, none, name); ok || !isNothing(got) {
			t.Errorf("ProgInline of %q: %v, %v", name, got, ok)
		}
	}
}

func TestInlinesOfSomeProblems(t *testing.T) {
	t.Parallel()
	s := spread{193}
	fit, beyond := 0, 0
	for at := range 250 {
		p := someProg(&s, []int{3, 10, 40, 100}[at%4])
		for _, name := range append(defNames(p), "x", "") {
			if _, ok := checkInline(t, p, name); ok {
				fit++
			} else if slices.Contains(defNames(p), name) {
				beyond++
			}
		}
	}
	if fit < 300 || beyond < 300 {
		t.Errorf("only %d that fit, and %d beyond the limit", fit, beyond)
	}
}
