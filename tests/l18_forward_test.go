package tests

import (
	"slices"
	"strings"
	"testing"

	"loop.example/pinfold/impl"
)

// forwardCase is a problem over variables x, y, z, a box, and the spans of all nodes behind the variables.
type forwardCase struct{ lines, box, spans string }

// namesFor are as many names of variables as a box has words.
func namesFor(box string) string {
	names := "x y z u v w"
	return names[:2*len(strings.Fields(box))-1]
}

func checkForwardCases(t *testing.T, cases []forwardCase) {
	t.Helper()
	for _, width := range bothWidths() {
		for _, c := range cases {
			g := graphWith(t, namesFor(c.box), c.lines)
			got := checkForward(t, width, g, boxAs(t, width, c.box))
			if want := spansAs(t, width, c.box+" "+c.spans); !slices.Equal(got, want) {
				t.Errorf("%d: %q over %s: %s, not %s", width, c.lines, c.box, spansText(width, got), spansText(width, want))
			}
		}
	}
}

// Each kind of nodes, forward.
func TestForwardOfEachKind(t *testing.T) {
	checkForwardCases(t, []forwardCase{
		{"x <= x", "-1..2", ""},
		{"x = 7", "-1..2", "7"}, {"x = 0.5", "-1..2", "1/2"}, {"x = 0.1", "-1..2", "1/10"}, {"x = 12.50e-1", "-1..2", "5/4"}, {"x = 0", "3", "0"},
		{"-x = x", "-1..2", "-2..1"}, {"-x = x", "3", "-3"}, {"-x = x", "0..0.1", "-1/10..0"},
		{"x + y = x", "1..2 3..5", "4..7"}, {"x + 0.1 = x", "0", "1/10 1/10"},
		{"x - y = x", "1..2 3..5", "-4..-1"}, {"y - x = x", "1..2 3..5", "1..4"},
		{"x * y = x", "-1..2 3..4", "-4..8"}, {"x * y = x", "-1..2 -3..5", "-6..10"}, {"x * y = x", "-2..-1 -5..-3", "3..10"}, {"x * y = x", "0 -5..3", "0"},
		{"x / y = x", "1..2 4..8", "1/8..1/2"}, {"x / y = x", "-1..2 4", "-1/4..1/2"}, {"x / y = x", "1 3", "1/3"}, {"x / y = x", "1..2 -4..-1", "-2..-1/4"}, {"x / y = x", "1..2 0..4", "1/4..inf"}, {"x / y = x", "1..2 -4..0", "-inf..-1/4"}, {"x / y = x", "1..2 -1..1", "-inf..inf"}, {"x / y = x", "0 -1..1", "0"}, {"x / y = x", "-1..1 0..1", "-inf..inf"},
		{"x^2 = x", "-3..2", "0..9"}, {"x^2 = x", "-3..-2", "4..9"}, {"x^3 = x", "-3..2", "-27..8"}, {"x^0 = x", "-3..2", "1"}, {"x^1 = x", "-3..2", "-3..2"}, {"x^8 = x", "-3..2", "0..6561"}, {"x^7 = x", "-3..2", "-2187..128"},
		{"sqrt(x) = x", "4..9", "2..3"}, {"sqrt(x) = x", "-4..9", "0..3"}, {"sqrt(x) = x", "-4..0", "0"}, {"sqrt(x) = x", "0", "0"}, {"sqrt(x) = x", "-4..-1", "none"},
		{"abs(x) = x", "-3..2", "0..3"}, {"abs(x) = x", "-3..-2", "2..3"}, {"abs(x) = x", "2..3", "2..3"},
		{"min(x, y) = x", "1..5 2..3", "1..3"}, {"max(x, y) = x", "1..5 2..3", "2..5"}, {"min(x, y) = x", "1..2 3..5", "1..2"}, {"max(x, y) = x", "1..2 3..5", "3..5"},
	})
}

// An empty part makes an empty node, the first or the second one, through each kind, and all that is made of it.
func TestForwardOfEmptyParts(t *testing.T) {
	checkForwardCases(t, []forwardCase{
		{"-sqrt(x) = x", "-2..-1", "none none"}, {"sqrt(x)^0 = x", "-2..-1", "none none"}, {"sqrt(x)^2 = x", "-2..-1", "none none"}, {"sqrt(sqrt(x)) = x", "-2..-1", "none none"}, {"abs(sqrt(x)) = x", "-2..-1", "none none"},
		{"sqrt(x) + y = x", "-2..-1 3", "none none"}, {"y + sqrt(x) = x", "-2..-1 3", "none none"}, {"sqrt(x) - y = x", "-2..-1 3", "none none"}, {"y - sqrt(x) = x", "-2..-1 3", "none none"},
		{"sqrt(x) * y = x", "-2..-1 0", "none none"}, {"y * sqrt(x) = x", "-2..-1 0", "none none"}, {"sqrt(x) / y = x", "-2..-1 3", "none none"}, {"y / sqrt(x) = x", "-2..-1 0", "none none"},
		{"min(sqrt(x), y) = x", "-2..-1 3", "none none"}, {"min(y, sqrt(x)) = x", "-2..-1 3", "none none"}, {"max(sqrt(x), y) = x", "-2..-1 3", "none none"}, {"max(y, sqrt(x)) = x", "-2..-1 3", "none none"},
		{"sqrt(x) + sqrt(y) = x", "-2..-1 -2..-1", "none none none"},
		{"x / y + 1 = x", "1..2 0", "none 1 none"}, {"0 / y = x", "1 0", "0 none"}, {"x / (y - y) = x", "1 5", "0 none"}, {"x / (y - y) = x", "1..2 5..6", "-1..1 -inf..inf"},
		// What stands beside an empty node is not touched.
		{"sqrt(x) + y^2 = x; y + 1 = -y", "-2..-1 3", "none 9 none 1 4 -3"},
	})
}

// A node that is both parts of one is taken as two: no more is known of it.
func TestForwardOfOneNodeTwice(t *testing.T) {
	checkForwardCases(t, []forwardCase{
		{"x + x = x", "-3..2", "-6..4"}, {"x - x = x", "-3..2", "-5..5"}, {"x * x = x", "-3..2", "-6..9"}, {"x / x = x", "1..2", "1/2..2"}, {"x / x = x", "-1..1", "-inf..inf"}, {"x / x = x", "0", "none"}, {"min(x, x) = x", "-3..2", "-3..2"}, {"max(x, x) = x", "-3..2", "-3..2"},
		{"-x - -x = x", "0..1", "-1..0 -1..1"},
	})
}

// Bounds that are infinite, and such as come to be.
func TestForwardOfInfiniteBounds(t *testing.T) {
	checkForwardCases(t, []forwardCase{
		{"-x = x", "-inf..2", "-2..inf"}, {"x + 1 = x", "0..inf", "1 1..inf"}, {"x + y = x", "0..inf -inf..0", "-inf..inf"}, {"x - x = x", "-inf..inf", "-inf..inf"}, {"x - y = x", "1..inf 2..3", "-2..inf"},
		{"x * x = x", "-inf..inf", "-inf..inf"}, {"x^2 = x", "-inf..inf", "0..inf"}, {"x^3 = x", "-inf..-2", "-inf..-8"}, {"x^0 = x", "-inf..inf", "1"}, {"x * y = x", "0 -inf..inf", "0"}, {"x * y = x", "0..inf 1..2", "0..inf"},
		{"1 / x = x", "1..inf", "1 0..1"}, {"1 / x = x", "-inf..inf", "1 -inf..inf"}, {"1 / x = x", "-inf..-1/2", "1 -2..0"}, {"x / y = x", "1..inf 1..inf", "0..inf"},
		{"sqrt(x) = x", "-inf..inf", "0..inf"}, {"sqrt(x) = x", "4..inf", "2..inf"}, {"abs(x) = x", "-inf..3", "0..inf"}, {"abs(x) = x", "-inf..-3", "3..inf"}, {"min(x, 1) = x", "-inf..inf", "1 -inf..1"}, {"max(x, 1) = x", "-inf..inf", "1 1..inf"}, {"max(x, y) = x", "-inf..3 -inf..2", "-inf..3"},
		// The greatest floats, and what is beyond them.
		{"x * y = x", "1e300..inf 1e300..inf", "1e600..inf"}, {"x = 1e400", "0", "1e400"}, {"x = 1e-400", "0", "1e-400"}, {"-1e400 = x", "0", "1e400 -1e400"}, {"x^8 = x", "1e200", "1e1600"}, {"x^8 = x", "1e-200", "1e-1600"},
	})
}

// Floats next to one another: what is reckoned is rounded outward.
func TestForwardIsRoundedOutward(t *testing.T) {
	checkForwardCases(t, []forwardCase{
		{"x + y = x", "1 0'", "1..1'"}, {"x + y = x", "1 0\"", "1\"..1"}, {"x - y = x", "1 0'", "1\"..1"}, {"x * x = x", "0'", "0..0'"}, {"x / y = x", "0' 2", "0..0'"},
		{"x + y = x", "1..1' 1", "2..2'"}, {"-x = x", "0'..1", "-1..0\""}, {"sqrt(x) = x", "1'", "1..1'"}, {"x^2 = x", "1\"", "1\"\"..1\""}, {"x^2 = x", "0\"..0'", "0..0'"},
	})
}

// Graphs and boxes by chance.
func TestForwardOfSomeGraphs(t *testing.T) {
	t.Parallel()
	s := spread{249}
	for at := range 1200 {
		g := onlyKinds(&s, 1+at%6, []int{1, 3, 6, 12, 40}[at%5], allKinds()...)
		if at%4 == 0 {
			g = someGraph(&s, []int{0, 3, 8, 20, 60}[at/4%5])
		}
		for _, width := range bothWidths() {
			checkForward(t, width, g, someBoxOf(&s, width, g.Vars))
		}
	}
}

// By one node at a time: a span for each node, of those of its parts.
func TestForwardIsANodeAtATime(t *testing.T) {
	for _, width := range bothWidths() {
		g := kindsGraph()
		spans := impl.HullForward(width, g, boxAs(t, width, "1..2 3..5"))
		if len(spans) != len(g.Nodes) {
			t.Fatalf("%d spans", len(spans))
		}
		wants := []impl.Span{
			spans[0], spans[1], spans[2], impl.SpanNeg(width, spans[1]), impl.SpanAdd(width, spans[0], spans[3]), impl.SpanSub(width, spans[4], spans[1]), impl.SpanMul(width, spans[5], spans[5]), impl.SpanDiv(width, spans[6], spans[2]),
			impl.SpanPow(width, spans[7], 8), impl.SpanRoot(width, spans[8]), impl.SpanAbs(width, spans[9]), impl.SpanMin(width, spans[10], spans[0]), impl.SpanMax(width, spans[1], spans[11]),
		}
		if !slices.Equal(spans, wants) || spans[2] != spanOf(ordOf(width, 25), ordOf(width, 25)) || slices.ContainsFunc(spans, isEmptySpan) {
			t.Errorf("%d: %s", width, spansText(width, spans))
		}
	}
}
