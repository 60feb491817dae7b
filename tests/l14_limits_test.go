package tests

import (
	"strings"
	"testing"

	"loop.example/pinfold/impl"
)

// long is the text of a thing with so many nodes: x, or another one of one node, with - ahead.
func long(count int, leaf string) string { return strings.Repeat("-", count-1) + leaf }

// limitCase is a text, what is put in, and whether that fits.
type limitCase struct {
	text, name string
	fits       bool
}

func checkLimitCases(t *testing.T, cases []limitCase) {
	t.Helper()
	for _, c := range cases {
		p := mustProg(t, c.text)
		if got, ok := checkInline(t, p, c.name); ok != c.fits || ok == isNothing(got) {
			t.Errorf("ProgInline of %q, %q: %q, %v", c.text, c.name, textOfProg(got), ok)
		}
	}
}

// inEachPlace are texts in which a term stands in a body, on the left and on the right; in the body y is a parameter.
func inEachPlace(defs []string, term string) []string {
	place := func(more ...string) string { return textWith(append(append([]string(nil), defs...), more...)...) }
	return []string{place("def g(y) = "+term, "var y", "y = 1"), place("var y", term+" = 1"), place("var y", "1 <= "+term), place("var y", "1 = 1", "y >= "+term), place("def g(y) = "+term, "def last = 1", "var y", "y = 1")}
}

func checkLimitOf(t *testing.T, defs []string, term string, name string, fits bool) {
	t.Helper()
	for _, text := range inEachPlace(defs, term) {
		checkLimitCases(t, []limitCase{{text, name, fits}})
	}
}

func TestTermsWithAsManyNodesAsCanBe(t *testing.T) {
	twice := []string{"def f(a) = a + a"}
	// Twice so many nodes, and one more.
	checkLimitOf(t, twice, "f("+long(49, "y")+")", "f", true)
	checkLimitOf(t, twice, "-f("+long(49, "y")+")", "f", true)
	checkLimitOf(t, twice, "--f("+long(49, "y")+")", "f", false)
	checkLimitOf(t, twice, "f("+long(50, "y")+")", "f", false)
	checkLimitOf(t, twice, "f("+long(99, "y")+")", "f", false)
	// One that is not used does not bear on it.
	checkLimitOf(t, append(twice, "def c = 1"), "f("+long(99, "y")+")", "c", true)
	// A name for a body of as many as can be.
	for _, size := range []int{98, 99, 100} {
		defs := []string{"def c = " + long(size, "1")}
		checkLimitOf(t, defs, "c", "c", true)
		checkLimitOf(t, defs, "-c", "c", size <= 99)
		checkLimitOf(t, defs, "y * c", "c", size <= 98)
		checkLimitOf(t, defs, "c + c", "c", false)
	}
	// A body of as many as can be, over an argument of one, and of more.
	for _, size := range []int{98, 99, 100} {
		defs := []string{"def f(a) = " + long(size, "a")}
		checkLimitOf(t, defs, "f(y)", "f", true)
		checkLimitOf(t, defs, "f(-y)", "f", size <= 99)
		checkLimitOf(t, defs, "f(y + 1)", "f", size <= 98)
		checkLimitOf(t, defs, "f(f(y))", "f", false)
	}
	// What the body does not use goes, however much it is.
	checkLimitOf(t, []string{"def k(a) = 1"}, "k("+long(99, "y")+")", "k", true)
	checkLimitOf(t, []string{"def k(a, b) = " + long(100, "b")}, "k("+long(98, "y")+", y)", "k", true)
	checkLimitOf(t, []string{"def k(a, b) = " + long(99, "b")}, "k("+long(97, "y")+", -y)", "k", true)
	checkLimitOf(t, []string{"def k(a, b) = " + long(100, "b")}, "k("+long(97, "y")+", -y)", "k", false)
}

// A part that would have too many nodes does not fit, though the body has no use for it.
func TestPartsWithAsManyNodesAsCanBe(t *testing.T) {
	first := []string{"def f(a, b) = a + a", "def g1(a, b) = a"}
	inner := "f(" + long(49, "y") + ", 1)"
	checkLimitOf(t, first, "f(y, "+inner+")", "f", true)
	checkLimitOf(t, first, "f(y, -"+inner+")", "f", true)
	checkLimitOf(t, first, "f(y, --"+inner+")", "f", false)
	checkLimitOf(t, first, "f(y, f("+long(50, "y")+", 1))", "f", false)
	checkLimitOf(t, first, "f(y, f(1, f("+long(50, "y")+", 1)))", "f", false)
	checkLimitOf(t, first, "f(f(y, f("+long(50, "y")+", 1)), 1)", "f", false)
	checkLimitOf(t, first, "f(y, f("+long(24, "y")+", 1) + f("+long(24, "y")+", 1))", "f", true)
	checkLimitOf(t, first, "f(y, f("+long(25, "y")+", 1) + f("+long(24, "y")+", 1))", "f", false)
	checkLimitOf(t, first, "f(y, "+inner+" + 1)", "f", false)
	checkLimitOf(t, first, "f(y, sqrt("+inner+"))", "f", true)
	checkLimitOf(t, first, "f(y, sqrt(-"+inner+"))", "f", false)
	checkLimitOf(t, first, "f(y, g1("+inner+", 1))", "f", false)
	checkLimitOf(t, first, "f(y, g1(1, f("+long(48, "y")+", 1)))", "f", true)
	checkLimitOf(t, first, "g1("+inner+", 1)", "f", false)
	// What the other one drops, it drops with all that is in it.
	checkLimitOf(t, first, "g1(y, --"+inner+")", "g1", true)
	checkLimitOf(t, first, "g1(y, "+inner+")", "f", false)
	// Arguments count one by one: a call is not there any more when its body is.
	checkLimitOf(t, []string{"def d(a, b) = " + long(31, "a")}, "d(d("+long(30, "y")+", 1), d("+long(30, "y")+", 1))", "d", true)
	checkLimitOf(t, []string{"def d(a, b) = " + long(31, "a")}, "d(d("+long(40, "y")+", 1), d("+long(40, "y")+", 1))", "d", true)
	checkLimitOf(t, []string{"def d(a, b) = " + long(31, "a")}, "d(d("+long(41, "y")+", 1), 1)", "d", false)
}

// flatCase is a text, and the text with all put in; none, if that is empty.
type flatCase struct {
	text, want string
}

func checkFlatCases(t *testing.T, cases []flatCase) {
	t.Helper()
	for _, c := range cases {
		p := mustProg(t, c.text)
		got, ok := checkFlat(t, p)
		if text := impl.ProgText(got); text != c.want || ok != (c.want != "") || ok == isNothing(got) {
			t.Errorf("ProgFlat of %q: %q, %v, not %q", c.text, text, ok, c.want)
		}
	}
}

func TestAllBodiesPutIn(t *testing.T) {
	checkFlatCases(t, []flatCase{
		{textWith("var x", "x = 1"), textWith("var x", "x = 1")},
		{textWith("def c = 2", "var x", "x = 1"), textWith("var x", "x = 1")},
		{textWith("def c = 2", "var x", "x = c"), textWith("var x", "x = 2")},
		{textWith("def f(a) = a^2", "var x", "f(f(x)) <= f(2)"), textWith("var x", "(x^2)^2 <= 2^2")},
		{textWith("def f(a) = g(a, c)", "def g(a, b) = a - b * d", "def c = d + d", "def d = 3", "var y", "var x", "f(x) >= y", "g(1, 2) = d"), textWith("var y", "var x", "x - (3 + 3) * 3 >= y", "1 - 2 * 3 = 3")},
		{textWith("def d = 3", "def c = d + d", "def g(a, b) = a - b * d", "def f(a) = g(a, c)", "var y", "var x", "f(x) >= y", "g(1, 2) = d"), textWith("var y", "var x", "x - (3 + 3) * 3 >= y", "1 - 2 * 3 = 3")},
		{textWith("def k(a) = 1", "def f(a) = k(a) + a", "var x", "f(k(f(x))) = x"), textWith("var x", "1 + 1 = x")},
	})
	var chain []string
	for at, name := range numbered("c", impl.ProgMaxDefs) {
		chain = append(chain, "def "+name+"(a) = "+append(numbered("-c", impl.ProgMaxDefs)[1:], "-")[at]+"(a)")
	}
	p := mustProg(t, textWith(append(chain, "var x", "c0(x) = c11(c0(x))")...))
	if got, ok := checkFlat(t, p); !ok || impl.ProgText(got) != textWith("var x", long(13, "x")+" = "+long(14, "x")) {
		t.Errorf("ProgFlat of %q: %q, %v", textOfProg(p), textOfProg(got), ok)
	}
}

// A step that does not fit is none, whichever it is, and though what comes behind it would make it less.
func TestFlatsOfWhichAStepDoesNotFit(t *testing.T) {
	x := "x = 1"
	big, drops, twice := "def b = "+long(60, "1"), "def k(a) = 1", "def t(a) = a + a"
	checkFlatCases(t, []flatCase{
		// The one that comes first drops what would be too much, or it comes too late.
		{textWith(drops, big, "var x", "k(b + b) = x"), textWith("var x", "1 = x")},
		{textWith(big, drops, "var x", "k(b + b) = x"), ""},
		{textWith(drops, twice, "var x", "k(--t("+long(49, "x")+")) = x"), textWith("var x", "1 = x")},
		{textWith(twice, drops, "var x", "k(--t("+long(49, "x")+")) = x"), ""},
		// The first, the last, and the one between.
		{textWith(big, "def c = 1", "def d = 2", "var x", "b + b = c", "d = 1"), ""},
		{textWith("def c = 1", big, "def d = 2", "var x", "b + b = c", "d = 1"), ""},
		{textWith("def c = 1", "def d = 2", big, "var x", "b + b = c", "d = 1"), ""},
		// In bodies of what is not used at all.
		{textWith(big, "def d(a) = b + b", "var x", x), ""},
		{textWith("def d(a) = b + b", big, "var x", x), ""},
		{textWith(big, "def d(a) = b + a", "def e = d(-"+long(38, "1")+")", "var x", x), textWith("var x", x)},
		{textWith(big, "def d(a) = b + a", "def e = d(-"+long(39, "1")+")", "var x", x), ""},
		// It doubles, until it is too much.
		{textWith("def t1(a) = a + a", "def t2(a) = t1(a) + t1(a)", "def t3(a) = t2(a) + t2(a)", "def t4(a) = t3(a) + t3(a)", "def t5(a) = t4(a) + t4(a)", "var x", "t5(x) = 1"), textWith("var x", doubled(5)+" = 1")},
		{textWith("def t1(a) = a + a", "def t2(a) = t1(a) + t1(a)", "def t3(a) = t2(a) + t2(a)", "def t4(a) = t3(a) + t3(a)", "def t5(a) = t4(a) + t4(a)", "def t6(a) = t5(a) + t5(a)", "var x", "t6(x) = 1"), ""},
		// The order is that of the problem as it came, though g would be free ahead of h when f is put in.
		{textWith("def f(a) = 1", "def g(a) = f(h)", "def h = "+long(60, "1"), "var x", "g(h + h) = x"), ""},
		{textWith("def f(a) = 1", "def g(a) = f(2)", "def h = "+long(60, "1"), "var x", "g(h + h) = x"), textWith("var x", "1 = x")},
	})
}

// doubled is a sum of two equal ones, so many times over.
func doubled(times int) string {
	if times == 1 {
		return "x + x"
	}
	return doubled(times-1) + " + (" + doubled(times-1) + ")"
}

func TestFlatsOfSomeProblems(t *testing.T) {
	t.Parallel()
	s := spread{194}
	fit, beyond := 0, 0
	for at := range 500 {
		if _, ok := checkFlat(t, someProg(&s, []int{3, 10, 20, 40}[at%4])); ok {
			fit++
		} else {
			beyond++
		}
	}
	if fit < 150 || beyond < 80 {
		t.Errorf("only %d that fit, and %d beyond the limit", fit, beyond)
	}
}
