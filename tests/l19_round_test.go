package tests

import (
	"testing"

	"loop.example/pinfold/impl"
)

// checkSlopesRoundCases wants of each problem what slopes of all relations leave of a box.
func checkSlopesRoundCases(t *testing.T, cases []reviseCase) {
	t.Helper()
	for _, width := range bothWidths() {
		for _, c := range cases {
			g := graphWith(t, namesFor(c.box), c.lines)
			b := boxAs(t, width, c.box)
			checkBySlopes(t, width, g, b)
			got := checkSlopesRound(t, width, g, b)
			if want := boxAs(t, width, c.left); !sameBox(got.box, want) || got.ok != (c.left != "") {
				t.Errorf("%d: %q over %s: %s, not %s", width, c.lines, c.box, got.text(width), boxText(width, want))
			}
		}
	}
}

// All relations, in order, each of what the one ahead left, once.
func TestSlopesRound(t *testing.T) {
	checkSlopesRoundCases(t, []reviseCase{
		{"x <= 3", "1..4", "1..3"}, {"x <= 3; x >= 2", "1..4", "2..3"}, {"x >= 2; x <= 3", "1..4", "2..3"}, {"x = 3; x = 3", "1..4", "3"}, {"x <= y; y <= 3", "1..4 1..4", "1..4 1..3"}, {"y <= 3; x <= y", "1..4 1..4", "1..3 1..3"}, {"x + x + x + x <= 4; x * x = x", "-4..4", "-4..1"},
		{"x <= y; y <= z; z <= 3", "1..4 1..4 1..4", "1..4 1..4 1..3"}, {"z <= 3; y <= z; x <= y", "1..4 1..4 1..4", "1..3 1..3 1..3"}, {"x + y = 4; y + z = 6; z + u = 8", "1..4 1..2 1..16 1..16", "2..3 1..2 4..5 3..4"},
		// Said twice it narrows twice, by another middle.
		{"x^2 = 2", "1..2", "11/8..23/16"}, {"x^2 = 2; x^2 = 2", "1..2", "181/128..3983/2816"},
		// A later relation leaves nothing, or an earlier one; one that is said of a single float is passed by.
		{"x^2 <= 2; x^2 >= 9", "1..4", ""}, {"x <= 2; x >= 3", "1..4", ""}, {"x >= 5; x <= 3", "1..4", ""}, {"x = 3; x = 2", "1..4", "3"}, {"x <= 3; y >= 9; x >= 0", "1..4 1..4", ""}, {"x <= 3; x >= 0; y >= 9", "1..4 1..4", ""},
		// Slopes of one of them do not fit: it is passed by.
		{"abs(x) = 1; x <= 3", "1..4", "1..3"}, {"x <= 3; abs(x) = 9", "1..4", "1..3"}, {"x <= 3; abs(x) = 9; x >= 2", "1..4", "2..3"}, {"abs(x) = 9; max(x, 1) <= 0", "1..4", "1..4"}, {"x <= 3; sqrt(y) = 9", "1..4 -2..-1", "1..3 -2..-1"}, {"sqrt(y) = 9; x <= 3", "1..4 -2..-1", "1..3 -2..-1"},
		// They fit as soon as the ones ahead have narrowed the box.
		{"x >= 1; 1 / x = 0.5", "-4..4", "2"}, {"1 / x = 0.5; x >= 1", "-4..4", "1..4"}, {"x >= 1; sqrt(x) >= 0", "-4..4", "1..4"}, {"y >= 1; 1 / y = 0.5", "0..16 -4..4", "0..16 2"},
	})
}

// allCases are problems, boxes, what is left of them by relations and then by slopes, and the gap that is told with it.
func allCases() []roundCase {
	return []roundCase{
		{"x + x + x + x = 4", "-4..4", "1", ""}, {"x + x + x + x <= 4", "-4..4", "-4..1", ""}, {"abs(x) <= 2; x + x + x + x >= 4", "-4..4", "1..2", ""}, {"x + x + x + x >= 4; abs(x) <= 2", "-4..4", "1..2", ""},
		// By relations nothing is left, or by slopes.
		{"x = 5", "0..1", "", ""}, {"sqrt(x) = 1", "-2..-1", "", ""}, {"abs(x) = 9", "1..4", "", ""}, {"x * y = 1; x = 5", "0..1 0..1", "", ""}, {"x + x + x + x <= 4; x + x + x + x >= 8", "-4..4", "", ""}, {"x * y = 1; z + z + z + z <= 4; z + z + z + z >= 8", "-4..4 -1..1 -4..4", "", ""}, {"x + x + x + x = 9; abs(x) <= 2", "-4..4", "", ""},
		// A gap that can be cut out in the end, just, and not any more.
		{"x * y = 1", "-4..4 -1..1", "-4..4 -1..1", "0: -1..1"}, {"x * y = 1; x + x + x + x <= 8", "-4..4 -1..1", "-4..2 -1..1", "0: -1..1"}, {"x * y = 1; x + x + x + x <= 4", "-4..4 -1..1", "-4..1 -1..1", "0: -1..1"}, {"x * y = 1; x + x + x + x <= 3.999", "-4..4 -1..1", "-4..0.99975 -1..1", ""}, {"x * y = 1; x + x + x + x <= 2", "-4..4 -1..1", "-4..1/2 -1..1", ""}, {"x + x + x + x >= -4; x * y = 1", "-4..4 -1..1", "-1..4 -1..1", "0: -1..1"}, {"x * y = 1; x + x + x + x >= -2", "-4..4 -1..1", "-1/2..4 -1..1", ""}, {"x * y = 1; x + x + x + x = 8", "-4..4 -1..1", "2 -1..1", ""},
		// A later one can be, in place of an earlier one; the first that can.
		{"x * y = 1; z * u = 2; x + x + x + x <= 2", "-4..4 -1..1 -4..4 -1..1", "-4..1/2 -1..1 -4..4 -1..1", "2: -2..2"}, {"z * u = 2; x * y = 1; x + x + x + x <= 2", "-4..4 -1..1 -4..4 -1..1", "-4..1/2 -1..1 -4..4 -1..1", "2: -2..2"}, {"z * u = 2; x * y = 1; x + x + x + x <= 8", "-4..4 -1..1 -4..4 -1..1", "-4..2 -1..1 -4..4 -1..1", "2: -2..2"}, {"x * y = 1; z * u = 2; x + x + x + x <= 8", "-4..4 -1..1 -4..4 -1..1", "-4..2 -1..1 -4..4 -1..1", "0: -1..1"},
		{"x * y = 2; x * z = 1; x + x + x + x <= 4", "-4..4 -1..1 -1..1", "-4..1 -1..1 -1..1", "0: -1..1"}, {"x * y = 2; x * z = 1; x + x + x + x <= 8", "-4..4 -1..1 -1..1", "-4..2 -1..1 -1..1", "0: -2..2"},
		// None can.
		{"x * y = 1; z * u = 2; x + x + x + x <= 2; z + z + z + z <= 2", "-4..4 -1..1 -4..4 -1..1", "-4..1/2 -1..1 -4..1/2 -1..1", ""}, {"x * y = 1; x >= 0", "-4..4 -1..1", "1\"..4 1/4..1", ""}, {"x * y = 0", "-4..4 -1..1", "-4..4 -1..1", ""},
		// What slopes leave is not narrowed by relations again.
		{"y <= x; x + x + x + x <= 4", "-4..4 -4..8", "-4..1 -4..4", ""},
	}
}

func TestRelationsThenSlopes(t *testing.T) { checkRoundCases(t, checkBySlopes, allCases()) }

// Where HullRound told one gap, and another one is told in the end.
func TestGapsThatSlopesTakeAway(t *testing.T) {
	for _, width := range bothWidths() {
		g := graphWith(t, "x y z u", "x * y = 1; z * u = 2; x + x + x + x <= 2")
		b := boxAs(t, width, "-4..4 -1..1 -4..4 -1..1")
		first, last := checkRound(t, width, g, b), checkAll(t, width, g, b)
		if first.gap != gapAs(t, width, "0: -1..1") || last.gap != gapAs(t, width, "2: -2..2") {
			t.Errorf("%d: %v, then %v", width, first.gap, last.gap)
		}
	}
}

// Boxes by chance: of graphs of smooth kinds, of all kinds, and of products with sums that only slopes narrow.
func TestRelationsThenSlopesOfSomeGraphs(t *testing.T) {
	t.Parallel()
	s := spread{266}
	left, less, nothing := 0, 0, 0
	for at := range 1200 {
		g := graphInTurn(&s, at)
		if at%2 == 0 {
			g = withSum(&s, boundTo(&s, onlyKinds(&s, 1+at%4, 2+at%5, smoothKinds()...)), 0)
		}
		for _, width := range bothWidths() {
			b := someBoxOf(&s, width, g.Vars)
			got := checkBySlopes(t, width, g, b)
			hull, _, isHull := impl.HullRound(width, g, b)
			switch {
			case !isHull:
			case !got.ok:
				nothing++
			case !sameBox(hull, got.box):
				less++
			default:
				left++
			}
		}
	}
	if left < 350 || less < 100 || nothing < 20 {
		t.Errorf("only %d left, %d less, %d nothing", left, less, nothing)
	}
}

// withSum is a graph with a relation more, of a variable's sum with itself three times and a number: the relations leave wide boxes as they are by it, slopes do not.
func withSum(s *spread, g impl.Graph, v int) impl.Graph {
	out := copiedGraph(g)
	pad := slopePad{out.Nodes}
	sum := v
	for range 3 {
		sum = pad.put(signNode("+", sum, v))
	}
	out.Rels = append(out.Rels, impl.GraphRel{Kind: 1 + int(s.next()%2), Left: sum, Right: pad.putNumber(pick(s, []string{"0", "1", "2", "4", "0.1"}))})
	out.Nodes = pad.nodes
	return out
}

// Products by chance, with gaps that slopes take away.
func TestGapsOfSomeGraphsThenSlopes(t *testing.T) {
	t.Parallel()
	s := spread{267}
	told, gone, later := 0, 0, 0
	for at := range 1000 {
		g := productsGraph(&s, 2+at%4)
		for range 1 + at%2 {
			g = withSum(&s, g, int(s.next()%uint64(g.Vars)))
		}
		for _, width := range bothWidths() {
			b := someBoxOf(&s, width, g.Vars)
			for at := range b.Pairs {
				if s.next()%4 > 0 {
					far := float64(1+s.next()%16) / 2
					b.Pairs[at] = impl.Pair{Lo: ordOf(width, -far), Hi: ordOf(width, far)}
				}
			}
			got := checkAll(t, width, g, b)
			_, first, _ := impl.HullRound(width, g, b)
			switch {
			case !got.ok || !first.Some:
			case got.gap == first:
				told++
			case got.gap.Some:
				later++
			default:
				gone++
			}
		}
	}
	if told < 150 || gone < 40 || later < 10 {
		t.Errorf("only %d gaps, %d gone, %d later ones", told, gone, later)
	}
}
