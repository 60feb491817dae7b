package tests

import (
	"slices"
	"strconv"
	"strings"
	"testing"

	"loop.example/pinfold/impl"
)

// stepsCase is a text, and how many nodes its sides have with all bodies put in.
type stepsCase struct {
	text string
	want int
}

func checkStepsCases(t *testing.T, cases []stepsCase) {
	t.Helper()
	for _, c := range cases {
		p := mustProg(t, c.text)
		if got := checkSteps(t, p); got != c.want {
			t.Errorf("GraphSteps of %.600q: %d, not %d", c.text, got, c.want)
		}
		checkGraph(t, p)
	}
}

func TestStepsOfProblems(t *testing.T) {
	checkStepsCases(t, []stepsCase{
		// With no definitions, and with what is not used.
		{textWith("var x", "x = 1"), 2},
		{textWith("var x", "x + 1 = -sqrt(x)^2"), 7},
		{textWith("var x", "var y", "x = x", "min(x, 1) <= max(y, 2)", "1 >= 1"), 10},
		{textWith("def c = 1 + 2", "def f(a) = a * c", "var x", "x = 1"), 2},
		// A body of its own counts each time.
		{textWith("def c = 1 + 2", "var x", "c + c = c"), 10},
		{textWith("def c = 1 + 2", "def d = c * c", "var x", "d = x"), 8},
		// An argument counts as often as the body has it: not at all, once, twice and more.
		{textWith("def k(a) = 1", "var x", "k(x + x + x) = x"), 2},
		{textWith("def f(a) = -a", "var x", "f(x + x) = x"), 5},
		{textWith("def f(a) = a + a", "var x", "f(x + x) = x"), 8},
		{textWith("def f(a) = a + a * a", "var x", "f(x + x) = x"), 12},
		{textWith("def f(a, b, c, d, e, g) = a + g * g", "var x", "f(-1, --1, ---1, 1 + 1, 1, x + 1) = x"), 11},
		{textWith("def f(a, b, c, d, e, g) = e - d", "var x", "f(-1, --1, ---1, 1 + 1, ----1, x + 1) = x"), 10},
		// What is dropped further in, and what is dropped with all that stands in it.
		{textWith("def k(a) = 1", "def f(a, b) = k(a) + b", "var x", "f(x * x, -x) = x"), 5},
		{textWith("def k(a, b) = b", "def f(a) = k(a + a, a)", "var x", "f(k(x * x, -x)) = k(f(1), f(2))"), 3},
		{textWith("def k(a) = 1", "def f(a) = a * a", "var x", "k(f(f(f(f(x))))) = f(k(f(x)))"), 4},
		// Twice of twice.
		{textWith("def f(a) = a + a", "def g(a) = f(a) * f(a)", "var x", "g(x) = 1"), 8},
		{textWith("def g(a) = f(f(a))", "def f(a) = a + a", "var x", "g(g(x)) = g(1)"), 38},
		// Parameters in another order.
		{textWith("def f(a, b) = a + b * b", "def g(b, a) = f(a, b)", "var x", "g(-x, 1) = f(-x, 1)"), 13},
	})
}

// doublings are definitions that each use the one ahead twice: d0 has its argument twice, d11 4096 times.
func doublings() []string {
	defs := []string{"def d0(a) = a + a"}
	for at := 1; at < impl.ProgMaxDefs; at++ {
		name := "d" + strconv.Itoa(at-1) + "(a)"
		defs = append(defs, "def d"+strconv.Itoa(at)+"(a) = "+name+" + "+name)
	}
	return defs
}

// atTheLimit are relations of doublings whose sides have so many nodes together as may be, but for the last side.
func atTheLimit(last string) []string {
	// 8191 twice, 2047, 1023, 511, 31 and 3.
	return []string{"d11(x) = d11(x)", "d9(x) <= d8(x)", "d7(x) >= d3(x)", "d0(x) = " + last}
}

func TestStepsAtTheLimit(t *testing.T) {
	head := append(doublings(), "var x")
	for _, c := range []stepsCase{
		{"-x", 19999}, {"1", 19998}, {"d0(x)", 20000}, {"1 + x", 20000}, {"-d0(x)", 20001}, {"--d0(x)", 20001}, {"d1(x)", 20001}, {"d11(x)", 20001}, {"d11(d11(x))", 20001},
	} {
		text := textWith(append(head, atTheLimit(c.text)...)...)
		checkStepsCases(t, []stepsCase{{text, c.want}})
		want := 0
		if c.want > impl.GraphMaxSteps {
			want = impl.GraphTooLong
		}
		if _, code := impl.GraphOf(mustProg(t, text)); code != want {
			t.Errorf("GraphOf with %q: code %d", c.text, code)
		}
	}
	// The limit is that of all sides, wherever the one stands that is one too many.
	for at := range 4 {
		rels := atTheLimit("1 + x")
		rels[at] = "-" + rels[at]
		checkStepsCases(t, []stepsCase{{textWith(append(head, rels...)...), 20001}})
	}
	// Definitions that are not used, and what is dropped, count nothing, however much they would be.
	defs := append(doublings()[:11], "def k(a) = 1")
	checkStepsCases(t, []stepsCase{
		{textWith(append(head, "x = 1")...), 2},
		{textWith(append(defs, "var x", "k(d10(d10(d10(x)))) = x")...), 2},
		{textWith(append(defs, "var x", "d10(k(d10(d10(d10(x))))) = x")...), 4096},
	})
}

// nested are calls within each other.
func nested(name string, count int, inner string) string {
	return strings.Repeat(name+"(", count) + inner + strings.Repeat(")", count)
}

// Far more than can be gone through, or reckoned in a number of the machine: it is counted ahead of all work.
func TestStepsFarBeyondTheLimit(t *testing.T) {
	for _, times := range []int{2, 5, 6, 16, 60} {
		text := textWith(append(doublings(), "var x", nested("d11", times, "x")+" = 1")...)
		checkStepsCases(t, []stepsCase{{text, 20001}})
	}
	for times := 1; times <= 64; times++ {
		p := mustProg(t, textWith("def f(a) = a + a", "def g(a) = "+nested("f", 64, "a"), "var x", nested("f", times, "x")+" = 1", nested("g", times, "1")+" = x"))
		if got := checkSteps(t, p); got != 20001 {
			t.Errorf("GraphSteps of g %d times: %d", times, got)
		}
	}
	defs := []string{"def f0(a) = a + a"}
	for at := 1; at < impl.ProgMaxDefs; at++ {
		defs = append(defs, "def f"+strconv.Itoa(at)+"(a) = "+nested("f"+strconv.Itoa(at-1), 70, "a"))
	}
	for _, side := range []string{"f11(x)", "f11(1)", "f4(x)", "-f3(x)"} {
		checkStepsCases(t, []stepsCase{{textWith(append(defs, "var x", side+" <= x")...), 20001}})
	}
	// What has as many places for what is counted as can be.
	wide := []string{"def w0(a, b, c, d, e, f) = a * b + c * d + e * f"}
	for at := 1; at < impl.ProgMaxDefs; at++ {
		call := "w" + strconv.Itoa(at-1) + "(f, e, d, c, b, a)"
		wide = append(wide, "def w"+strconv.Itoa(at)+"(a, b, c, d, e, f) = "+call+strings.Repeat(" - "+call, 5))
	}
	checkStepsCases(t, []stepsCase{
		{textWith(append(wide, "var x", "w11(x, x, x, x, x, x) = 1")...), 20001}, {textWith(append(wide, "var x", "w1(x, 1, -x, 2, 3, 4) = 1")...), 78}, {textWith(append(wide, "var x", "w0(w1(x, 1, 1, 1, 1, 1), 1, 1, 1, 1, 1) = 1")...), 82},
	})
}

// Calls that hand an argument on count nothing, so that there can be more of them than could be gone through.
func TestStepsOfWhatHandsOn(t *testing.T) {
	for _, head := range []string{"def f0(a) = a", "def f0(a) = b0(1, a, 2)"} {
		defs := []string{head}
		for at := 1; at < impl.ProgMaxDefs-1; at++ {
			defs = append(defs, "def f"+strconv.Itoa(at)+"(a) = "+nested("f"+strconv.Itoa(at-1), 60, "a"))
		}
		defs = append(defs, "def b0(a, b, c) = b", "var x")
		for _, order := range [][]string{defs, backwards(defs)} {
			p := mustProg(t, textWith(append(order, "f10(x) = 1", "f10(-f10(x)) = f10(f10(1))")...))
			g, code := impl.GraphOf(p)
			if steps := checkSteps(t, p); steps != 5 || code != 0 || impl.GraphText(g) != textWith("n0 = var", "n1 = 1", "n2 = -n0", "n0 = n1", "n2 = n1") {
				t.Errorf("%q: %d steps, code %d, %q", textOfProg(p), steps, code, impl.GraphText(g))
			}
		}
	}
	// With further arguments, which are dropped each time, ahead and behind.
	for _, form := range [][]string{{"(a, b) = b", "(9, ", ")"}, {"(b, a) = b", "(", ", 9)"}} {
		defs := []string{"def f0" + form[0]}
		for at := 1; at < impl.ProgMaxDefs; at++ {
			inner := strings.Repeat("f"+strconv.Itoa(at-1)+form[1], 40) + "b" + strings.Repeat(form[2], 40)
			defs = append(defs, "def f"+strconv.Itoa(at)+form[0][:9]+inner)
		}
		p := mustProg(t, textWith(append(defs, "var x", "f11"+form[1]+"-x"+form[2]+" = x")...))
		g, code := impl.GraphOf(p)
		if steps := checkSteps(t, p); steps != 3 || code != 0 || impl.GraphText(g) != textWith("n0 = var", "n1 = -n0", "n1 = n0") {
			t.Errorf("%q: %d steps, code %d, %q", textOfProg(p), steps, code, impl.GraphText(g))
		}
	}
	// In arguments that are handed on, and as the first of what a body is made of.
	defs := []string{"def p(a, b) = a", "def s(a) = a + a"}
	for at := range 9 {
		ahead := append([]string{"s"}, numbered("r", 9)...)[at]
		defs = append(defs, "def r"+strconv.Itoa(at)+"(a) = "+strings.Repeat("p(", 30)+ahead+"(p(p(a, a), 1))"+strings.Repeat(", 1)", 30))
	}
	sum := "r8(x)" + strings.Repeat(" + r8(x)", 30)
	p := mustProg(t, textWith(append(defs, "def m = 1", "var x", sum+" = 1", sum+" <= m")...))
	if _, code := checkGraph(t, p); code != 0 || checkSteps(t, p) != 2*(31*3+30)+2 {
		t.Errorf("%d steps, code %d", impl.GraphSteps(p), code)
	}
}

func backwards(lines []string) []string {
	out := slices.Clone(lines)
	slices.Reverse(out)
	return out
}

func TestStepsOfSomeProblems(t *testing.T) {
	t.Parallel()
	s := spread{207}
	within, beyond := 0, 0
	for at := range 600 {
		p := someProg(&s, []int{3, 8, 20, 60}[at%4])
		if checkSteps(t, p) > impl.GraphMaxSteps {
			beyond++
		} else {
			within++
		}
	}
	if within < 200 || beyond < 100 {
		t.Errorf("only %d within the limit, and %d beyond it", within, beyond)
	}
}
