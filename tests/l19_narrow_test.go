package tests

import (
	"testing"

	"loop.example/pinfold/impl"
)

// checkSlopesCases wants of each problem what slopes of its first relation leave of a box; nothing is told by nothing.
func checkSlopesCases(t *testing.T, width int, cases []reviseCase) {
	t.Helper()
	for _, c := range cases {
		got := checkSlopes(t, width, graphWith(t, namesFor(c.box), c.lines), boxAs(t, width, c.box), 0)
		if want := boxAs(t, width, c.left); !sameBox(got.box, want) || got.ok != (c.left != "") {
			t.Errorf("%d: %q over %s: %s, not %s", width, c.lines, c.box, got.text(width), boxText(width, want))
		}
	}
}

func checkSlopesCasesOfBoth(t *testing.T, cases []reviseCase) {
	t.Helper()
	for _, width := range bothWidths() {
		checkSlopesCases(t, width, cases)
	}
}

// What is wanted of the difference, by each kind of relations, of either side.
func TestSlopesByEachKindOfRelation(t *testing.T) {
	checkSlopesCasesOfBoth(t, []reviseCase{
		{"x <= 1", "1..2", "1"}, {"x <= 3", "1..4", "1..3"}, {"x >= 3", "1..4", "3..4"}, {"x = 3", "1..4", "3"}, {"3 >= x", "1..4", "1..3"}, {"3 <= x", "1..4", "3..4"}, {"3 = x", "1..4", "3"}, {"x <= 5", "1..4", "1..4"}, {"x >= 0", "1..4", "1..4"}, {"x <= 0", "1..4", ""}, {"x >= 5", "1..4", ""}, {"x = 5", "1..4", ""}, {"x = 0", "1..4", ""}, {"x <= 1", "1..4", "1"}, {"x >= 4", "1..4", "4"}, {"x = 4", "1..4", "4"}, {"x = 1", "1..4", "1"},
		{"x^2 <= 2", "1..4", "1..7/4"}, {"x^2 >= 9", "1..4", "21/8..4"}, {"x^2 = 9", "1..4", "21/8..4"}, {"2 >= x^2", "1..4", "1..7/4"}, {"9 <= x^2", "1..4", "21/8..4"}, {"9 = x^2", "1..4", "21/8..4"}, {"x^2 = 2", "1..2", "11/8..23/16"}, {"2 = x^2", "1..2", "11/8..23/16"}, {"x^2 = 16", "1..4", "7/2..4"},
		{"x^2 = 36", "1..4", ""}, {"x^2 <= -8", "1..4", ""}, {"x^2 <= 0", "1..4", "1..3/2"}, {"x^2 >= 40", "1..4", ""}, {"x^2 <= 40", "1..4", "1..4"},
		{"-x <= -3", "1..4", "3..4"}, {"-x >= -3", "1..4", "1..3"}, {"-x = -3", "1..4", "3"}, {"x <= 6 - x", "1..4", "1..3"}, {"x >= 6 - x", "1..4", "3..4"}, {"x = 6 - x", "1..4", "3"},
	})
}

// Nodes of each kind in the difference.
func TestSlopesByEachKindOfNodes(t *testing.T) {
	checkSlopesCasesOfBoth(t, []reviseCase{
		{"x + x + x + x = 4", "-4..4", "1"}, {"x * 4 - x = 9", "1..4", "3"}, {"x * x = 9", "1..4", "21/8..4"}, {"x^3 = 27", "1..4", "115/48..4"}, {"x^1 = 3", "1..4", "3"}, {"x^0 = 1", "1..4", "1..4"}, {"x^0 = 2", "1..4", ""},
		{"1 / x = 0.5", "1..4", "2"}, {"1 / x = 0.25", "1..4", "9/4..4"}, {"1 / x >= 0.75", "1..4", "1..7/4"}, {"1 / x <= 0.25", "1..4", "9/4..4"}, {"x / 2 = 1.5", "1..4", "3"}, {"x / y = 1", "1..4 2", "2 2"},
		{"sqrt(x) = 3", "1..16", "6..12"}, {"sqrt(x) <= 1.5", "1..16", "1..3"}, {"sqrt(x) >= 3", "1..16", "6..16"}, {"sqrt(x) = 2", "1..16", "4"},
	})
}

// Slopes whose span has 0 within it, at its end, or alone.
func TestSlopesThatMayBeNought(t *testing.T) {
	checkSlopesCasesOfBoth(t, []reviseCase{
		{"x^2 = 4", "-4..4", "-4..4"}, {"x^2 = 32", "-4..4", "-4..4"}, {"x^2 = 64", "-4..4", ""}, {"x^2 >= 64", "-4..4", ""}, {"x^2 <= -1", "-4..4", "-4..4"}, {"x^2 <= -32", "-4..4", "-4..4"}, {"x^2 <= -64", "-4..4", ""}, {"x^2 = 0", "-4..4", "-4..4"}, {"x^2 <= 4", "-4..4", "-4..4"},
		{"x^2 = 4", "0..inf", "3/2..inf"}, {"x^2 >= 4", "0..inf", "3/2..inf"}, {"x^2 <= 4", "0..inf", "0..inf"}, {"x^2 <= 1", "0..inf", "0..3/2"}, {"x^2 = 1", "0..inf", "0..3/2"}, {"x^2 = 4", "-inf..0", "-inf..-3/2"}, {"x^2 = 1", "-inf..0", "-3/2..0"},
		{"x - x = 1", "1..4", ""}, {"x - x = 0", "1..4", "1..4"}, {"x - x >= 1", "1..4", ""}, {"x - x <= 1", "1..4", "1..4"}, {"x - x <= -1", "1..4", ""}, {"0 * x = 0", "1..4", "1..4"}, {"0 * x = 1", "1..4", ""}, {"x = x", "1..4", "1..4"}, {"2 = 3", "1..4", ""}, {"2 <= 3", "1..4", "1..4"}, {"2 >= 3", "1..4", ""}, {"3 = 3", "1..4", "1..4"},
		// A variable that the relation does not have: it stays, or nothing is left.
		{"y = 3", "1..4 3..5", "1..4 3"}, {"y = 3", "1..4 2..4", "1..4 3"}, {"y = 3", "1..4 4..5", ""}, {"y <= 3", "1..4 4..5", ""}, {"y <= 3", "1..4 2..5", "1..4 2..3"}, {"y >= 3", "1..4 1..2", ""}, {"x = 3", "1..4 1..4", "3 1..4"},
	})
}

// Pairs of one float alone are passed by, whatever holds there.
func TestSlopesPassSingleFloatsBy(t *testing.T) {
	checkSlopesCasesOfBoth(t, []reviseCase{
		{"x = 3", "4", "4"}, {"x = 4", "4", "4"}, {"x <= 3", "4", "4"}, {"x - x = 1", "4", "4"}, {"2 = 3", "4", "4"}, {"x + y = 4", "1 1..4", "1 3"}, {"x + y = 4", "1..4 1", "3 1"}, {"x + y = 10", "1 1..4", ""}, {"x + y = 10", "1..4 1", ""}, {"x * y = 9", "4 5", "4 5"}, {"x + y + z = 9", "1 1..4 5", "1 3 5"}, {"x + y + z = 7", "1..4 1 1..8", "1..4 1 2..5"}, {"x = y", "0 0", "0 0"}, {"x <= y", "1 0", "1 0"},
		// Of one step the lower bound is the middle.
		{"x = 1", "1..1'", "1"}, {"x >= 1", "1..1'", "1..1'"}, {"x <= 1", "1\"..1", "1\"..1"}, {"x = 1", "1\"..1", "1"}, {"x = 2", "1..1'", ""}, {"x = 0", "0..0'", "0"}, {"x = 0", "0\"..0", "0"}, {"x >= y", "1..1' 1'", "1' 1'"}, {"x = y", "1..1' 1..1'", "1..1' 1..1'"},
	})
}

// Pairs without bounds on one side, and on both.
func TestSlopesOfInfiniteBounds(t *testing.T) {
	checkSlopesCasesOfBoth(t, []reviseCase{
		{"x <= 3", "-inf..inf", "-inf..3"}, {"x >= 3", "-inf..inf", "3..inf"}, {"x = 3", "-inf..inf", "3"}, {"x <= 3", "0..inf", "0..3"}, {"x >= 3", "0..inf", "3..inf"}, {"x = 3", "0..inf", "3"}, {"x = 1.5", "0..inf", "3/2"}, {"x <= 3", "-inf..0", "-inf..0"}, {"x = -7", "-inf..0", "-7"}, {"x >= -7", "-inf..0", "-7..0"}, {"x <= -7", "-inf..0", "-inf..-7"}, {"x = 7", "-inf..0", ""}, {"x = -7", "0..inf", ""},
		{"x^3 = 8", "-inf..inf", "0..inf"}, {"x^3 = -8", "-inf..inf", "-inf..0"}, {"x * y = 1", "-inf..inf -inf..inf", "-inf..inf -inf..inf"}, {"x + y = 3", "-inf..inf -inf..inf", "-inf..inf -inf..inf"}, {"x + y = 3", "-inf..inf 1..2", "1..2 1..2"}, {"x + y <= 3", "0..inf 0..inf", "0..3 0..3"}, {"x - y = 3", "-inf..inf 0..inf", "3..inf 0..inf"}, {"x - y = 3", "-inf..0 0..inf", ""}, {"y = 3", "-inf..inf -inf..inf", "-inf..inf 3"},
	})
	// The middle is 2^64, and 2^512: what lies between it and the next float below it is what cannot be told there.
	checkSlopesCases(t, 32, []reviseCase{{"x = 7", "1..inf", "1..1099511627776"}, {"x <= 7", "1..inf", "1..1099511627776"}, {"x >= 7", "1..inf", "1..inf"}})
	checkSlopesCases(t, 64, []reviseCase{{"x = 7", "1..inf", "1..1488565707357402911845015158554633286356257506687627387456491927921949262056238946972039271861787782268441644249633132407878864135402815488"}})
}

// The middle of a pair is the infinite bound below all floats only if the pair has one step: then the next float is taken, the least that is finite.
func TestSlopesFromTheLeastFloat(t *testing.T) {
	for _, width := range bothWidths() {
		top := topOf(width)
		least, greatest := impl.Pair{Lo: 1 - top, Hi: 1 - top}, impl.Pair{Lo: top - 1, Hi: top - 1}
		below := func(steps int) impl.Pair { return impl.Pair{Lo: -top, Hi: steps - top} }
		above := func(steps int) impl.Pair { return impl.Pair{Lo: top - steps, Hi: top} }
		for _, c := range []struct {
			lines  string
			x, y   impl.Pair
			want   impl.Pair
			isLeft bool
		}{
			{"x + y >= 0", below(1), greatest, least, true}, {"x + y <= 0", below(1), greatest, below(1), true}, {"x + y = 0", below(1), greatest, least, true}, {"x + y = 1", below(1), greatest, impl.Pair{}, false}, {"x + y <= -1", below(1), greatest, below(1), true},
			{"x + y >= 0", below(2), greatest, impl.Pair{Lo: 1 - top, Hi: 2 - top}, true}, {"x + y = 0", below(2), greatest, least, true}, {"x + y <= 0", below(2), greatest, impl.Pair{Lo: -top, Hi: 1 - top}, true}, {"x + y = 0", below(3), greatest, least, true}, {"x + y = 0", below(4), greatest, least, true},
			{"x = y", below(1), least, least, true}, {"x >= y", below(1), least, least, true}, {"x <= y", below(1), least, below(1), true}, {"x - y <= -1", below(1), least, below(1), true},
			{"x <= y", above(1), greatest, greatest, true}, {"x >= y", above(1), greatest, above(1), true}, {"x = y", above(1), greatest, greatest, true}, {"x = y", above(2), greatest, greatest, true},
		} {
			b := impl.Box{Pairs: []impl.Pair{c.x, c.y}}
			var want impl.Box
			if c.isLeft {
				want = withPair(b, 0, c.want)
			}
			if got := checkSlopes(t, width, graphWith(t, "x y", c.lines), b, 0); got.ok != c.isLeft || !sameBox(got.box, want) {
				t.Errorf("%d: %q over %s: %s, not %s", width, c.lines, boxText(width, b), got.text(width), boxText(width, want))
			}
			// And the other way round.
			b = impl.Box{Pairs: []impl.Pair{c.y, c.x}}
			checkBySlopes(t, width, graphWith(t, "x y", c.lines), b)
			checkBySlopes(t, width, graphWith(t, "y x", c.lines), b)
		}
		for _, lines := range []string{"x * y = 1", "x^2 >= y", "x^3 <= y", "1 / x <= y", "x / y <= 1", "-x = y", "x - x = y", "sqrt(-x) <= -y"} {
			g := graphWith(t, "x y", lines)
			for _, x := range []impl.Pair{below(1), below(2), below(3), above(1), above(2)} {
				for _, y := range []impl.Pair{below(1), above(1), least, greatest, {Lo: -top, Hi: top}} {
					checkBySlopes(t, width, g, impl.Box{Pairs: []impl.Pair{x, y}})
				}
			}
		}
	}
}

// One variable after the other: the slope by the next one, and the difference, are reckoned over the box as it is by then, and it may be the later one that nothing is left of.
func TestSlopesVariableByVariable(t *testing.T) {
	checkSlopesCasesOfBoth(t, []reviseCase{
		{"x * y = 4", "1..4 4..16", "1..7/4 4..40/7"}, {"y + (x^2 - x) = 3", "1..4 1..16", "1..2 1..4"}, {"x^2 + y = 30", "-4..4 -4..4", ""}, {"x + y = 4", "1..4 1..2", "2..3 1..2"}, {"x + y + z = 0", "-4..4 1..2 1..2", "-4..-2 1..2 1..2"}, {"x + y + z = 6", "1..4 1..4 1..16", "1..4 1..4 1..4"},
		{"x * y = 12", "1..4 1..4", "3..4 3..4"}, {"x - y >= 2", "1..4 1..4", "3..4 1..2"}, {"y - x <= -2", "1..4 1..4", "3..4 1..2"},
	})
	// With the variables the other way round.
	for _, width := range bothWidths() {
		g := graphWith(t, "y x", "x * y = 4")
		if got := checkSlopes(t, width, g, boxAs(t, width, "4..16 1..4"), 0); !sameBox(got.box, boxAs(t, width, "4..7 1..10/7")) {
			t.Errorf("%d: %s", width, got.text(width))
		}
	}
}

// Where slopes do not fit the box stays, though there may be no solution.
func TestSlopesThatDoNotFit(t *testing.T) {
	checkSlopesCasesOfBoth(t, []reviseCase{
		{"abs(x) = 9", "1..4", "1..4"}, {"max(x, 2) <= 1", "1..4", "1..4"}, {"x = min(x, 0)", "1..4", "1..4"}, {"sqrt(x) = 9", "-4..-1", "-4..-1"}, {"sqrt(x) = 9", "0..4", "0..4"}, {"1 / x = 0", "-1..4", "-1..4"}, {"1 / x = 1", "0", "0"}, {"abs(x) = 1; x = 9", "1..4", "1..4"}, {"abs(x) <= y", "-inf..inf 1..2", "-inf..inf 1..2"},
		// One that fits narrows, whatever the others are.
		{"x <= 3; abs(x) = 9", "1..4", "1..3"}, {"x <= 3; sqrt(y) = 1", "1..4 -2..-1", "1..3 -2..-1"}, {"x <= 3; 1 / y = 1", "1..4 0", "1..3 0"},
	})
}

// Relations, graphs and boxes by chance.
func TestSlopesOfSomeGraphs(t *testing.T) {
	t.Parallel()
	s := spread{265}
	fit, less, nothing := 0, 0, 0
	for at := range 2500 {
		g := boundTo(&s, onlyKinds(&s, 1+at%4, []int{1, 2, 3, 5}[at%4], smoothKinds()...))
		for _, width := range bothWidths() {
			b := someBoxOf(&s, width, g.Vars)
			if at%3 == 0 {
				b = boxAround(&s, width, somePointOf(&s, width, b))
			}
			for rel := range g.Rels {
				got := checkSlopes(t, width, g, b, rel)
				switch {
				case !impl.NewtonFits(width, g, b, rel):
					continue
				case !got.ok:
					nothing++
				case !sameBox(got.box, b):
					less++
				}
				fit++
			}
		}
	}
	if fit < 4000 || less < 1000 || nothing < 800 {
		t.Errorf("only %d fit, %d boxes less, %d nothing", fit, less, nothing)
	}
}
