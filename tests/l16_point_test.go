package tests

import (
	"math/big"
	"testing"

	"loop.example/pinfold/impl"
)

func TestStatesOfNodes(t *testing.T) {
	if impl.PointValue != 1 || impl.PointNone != 2 || impl.PointHidden != 3 {
		t.Error(impl.PointValue, impl.PointNone, impl.PointHidden)
	}
}

// A node of each kind, with values.
func TestPointsOfEachKind(t *testing.T) {
	checkPointCases(t, []pointCase{
		{"x = x", "0", "0", 1},
		{"x = x", "-7/3", "-7/3", 1},
		{"x = 3", "3", "3 3", 1},
		{"-x = 3", "-3", "-3 3 3", 1},
		{"-x = x", "0", "0 0", 1},
		{"-(-x) = x", "5/2", "5/2 -5/2 5/2", 1},
		{"x + y = 5/6", "1/2 1/3", "1/2 1/3 5/6 5 6 5/6", 1},
		{"x + x = 0", "-1/4", "-1/4 -1/2 0", -1},
		{"x - y = y - x", "1/2 1/3", "1/2 1/3 1/6 -1/6", -1},
		{"x - x = 0", "22/7", "22/7 0 0", 1},
		{"x * y = y * x", "-2/3 9/4", "-2/3 9/4 -3/2 -3/2", 1},
		{"x * y = 0", "0 7", "0 7 0 0", 1},
		{"x / y = y / x", "-2/3 9/4", "-2/3 9/4 -8/27 -27/8", -1},
		{"x / x = 1", "-1/7", "-1/7 1 1", 1},
		{"x / y = x", "0 7", "0 7 0", 1},
		{"x^3 = x^2", "-2/3", "-2/3 -8/27 4/9", -1},
		{"x^1 = x", "-2/3", "-2/3 -2/3", 1},
		{"sqrt(x) = 3/2", "9/4", "9/4 3/2 3 2 3/2", 1},
		{"abs(x) = abs(-x)", "-5/3", "-5/3 5/3 5/3 5/3", 1},
		{"abs(x) = x", "5/3", "5/3 5/3", 1},
		{"abs(x) = x", "0", "0 0", 1},
		{"min(x, y) = max(x, y)", "1/2 1/3", "1/2 1/3 1/3 1/2", -1},
		{"min(x, y) = max(x, y)", "-1/2 -1/3", "-1/2 -1/3 -1/2 -1/3", -1},
		{"min(y, x) = max(y, x)", "-1/2 1/3", "-1/2 1/3 -1/2 1/3", -1},
		{"x + y * z = (x + y) * z", "1 2 3", "1 2 3 6 7 3 9", -1},
		{"x - y - z = x - (y - z)", "1 2 3", "1 2 3 -1 -4 -1 2", -1},
		{"x / y / z = x / (y / z)", "1 2 3", "1 2 3 1/2 1/6 2/3 3/2", -1},
		{"-x^2 = (-x)^2", "3", "3 9 -9 -3 9", -1},
	})
}

// Of values that are one both are that value, whichever way it stands there.
func TestTheLesserAndGreaterOfOneValue(t *testing.T) {
	checkPointCases(t, []pointCase{
		{"min(x, y) = max(x, y)", "1/2 1/2", "1/2 1/2 1/2 1/2", 1},
		{"min(x, x) = max(x, x)", "-3", "-3 -3 -3", 1},
		{"min(x, 0.5) = max(5e-1, x)", "1/2", "1/2 1/2 1/2 1/2 1/2", 1},
		{"min(x, 0) = max(0, -x)", "0", "0 0 0 0 0", 1},
		{"min(x, -x) = max(x, -x)", "-7", "-7 7 -7 7", -1},
		{"min(x^0, y / y) = max(1, 1.0)", "5 -2", "5 -2 1 1 1 1 1 1", 1},
	})
}

func TestPointsOfNumbers(t *testing.T) {
	checkPointCases(t, []pointCase{
		{"x = 0.5", "1/2", "1/2 1/2", 1},
		{"x = 0.50", "1/2", "1/2 1/2", 1},
		{"x = 2.5e1", "25", "25 25", 1},
		{"x = 25e-1", "5/2", "5/2 5/2", 1},
		{"x = 1e0", "1", "1 1", 1},
		{"x = 0.000", "0", "0 0", 1},
		{"x = 0e-400", "0", "0 0", 1},
		{"x = 1e-3", "1/1000", "1/1000 1/1000", 1},
		{"0.1 + 0.2 = 0.3", "0", "0 1/10 1/5 3/10 3/10", 1},
		{"x * 3 = 1", "0.3333333333333333", "3333333333333333/10000000000000000 3 9999999999999999/10000000000000000 1", -1},
	})
	for _, text := range append(manyLiterals(), "1e400", "9.99e-400") {
		g := graphOfLines(t, "var x", "x = "+text)
		if _, holds := checkPoint(t, g, []*big.Rat{numberRat(text)}); holds != 1 {
			t.Errorf("x = %s holds at it: %d", text, holds)
		}
		checkPoint(t, g, []*big.Rat{new(big.Rat).Add(numberRat(text), smallRat(1, 1))})
	}
}

// Every value has a 0th power, 0 too; up to the highest power that may stand.
func TestPowersAtPoints(t *testing.T) {
	checkPointCases(t, []pointCase{
		{"x^0 = 1", "0", "0 1 1", 1}, {"x^0 = 1", "1", "1 1 1", 1}, {"x^0 = 1", "-7/3", "-7/3 1 1", 1}, {"0^0 = 1", "5", "5 0 1 1", 1}, {"(x - x)^0 = x", "1", "1 0 1", 1},
		{"x^8 = 256", "-2", "-2 256 256", 1}, {"x^7 = -128", "-2", "-2 -128 128 -128", 1}, {"x^8 = x^0", "0", "0 0 1", -1}, {"x^8 = y", "2/3 256/6561", "2/3 256/6561 256/6561", 1},
		{"sqrt(x)^0 = 1", "2", "2 hidden hidden 1", 0}, {"sqrt(x)^0 = 1", "-2", "-2 none none 1", -1}, {"(1 / x)^0 = 1", "0", "0 1 none none", -1},
	})
	for _, r := range append(shortRats(), wholeRat(mostNat()), rat(big.NewInt(-1), mostNat())) {
		for n := range impl.TermMaxPower + 1 {
			g := leastGraph()
			g.Nodes = append(g.Nodes, impl.GraphNode{Kind: impl.TermPow, N: n})
			nodes, _ := checkPoint(t, g, []*big.Rat{r})
			if n == 0 && nodesText(nodes[1:]) != "1" {
				t.Errorf("the 0th power of %s: %v", aNumber(r), nodes[1])
			}
		}
	}
}

func TestDivisionAtPoints(t *testing.T) {
	checkPointCases(t, []pointCase{
		{"1 / x >= 0", "0", "0 1 none 0", -1},
		{"x / x = 1", "0", "0 none 1", -1},
		{"0 / x = 0", "0", "0 0 none", -1},
		{"x / 0 = 0", "5", "5 0 none", -1},
		{"x / 0.0e9 = 0", "5", "5 0 none 0", -1},
		{"1 / (x - y) = 1", "2/3 2/3", "2/3 2/3 1 0 none", -1},
		{"1 / (x - y) = 3", "2/3 1/3", "2/3 1/3 1 1/3 3 3", 1},
		{"1 / (1 / x) = x", "0", "0 1 none none", -1},
		{"0 * (1 / x) = 0", "0", "0 0 1 none none", -1},
		{"min(x, 1 / x) = x", "0", "0 1 none none", -1},
	})
}

// Roots that are fractions, and those that are not: what is not told is not what is not there.
func TestRootsAtPoints(t *testing.T) {
	checkPointCases(t, []pointCase{
		{"sqrt(x) = x", "0", "0 0", 1},
		{"sqrt(x) = x", "1", "1 1", 1},
		{"sqrt(x) = 1.5", "9/4", "9/4 3/2 3/2", 1},
		{"sqrt(x) = 1 / 7", "1/49", "1/49 1/7 1 7 1/7", 1},
		{"sqrt(x) = 0", "-1", "-1 none 0", -1},
		{"sqrt(x) = 0", "-4/9", "-4/9 none 0", -1},
		{"sqrt(x) = 0", "-1/1000000000000000000000", "-1/1000000000000000000000 none 0", -1},
		{"sqrt(x) <= 2", "2", "2 hidden 2", 0},
		{"sqrt(x) <= 2", "1/2", "1/2 hidden 2", 0},
		{"sqrt(x) <= 2", "4/3", "4/3 hidden 2", 0},
		{"sqrt(x) <= 2", "3/4", "3/4 hidden 2", 0},
		{"sqrt(x) <= 2", "8/2", "4 2 2", 1},
		{"sqrt(x) <= 2", "8/18", "4/9 2/3 2", 1},
		{"sqrt(x) <= 2", "2/8", "1/4 1/2 2", 1},
		{"sqrt(sqrt(x)) = 2", "16", "16 4 2 2", 1},
		{"sqrt(sqrt(x)) = 2", "4", "4 2 hidden 2", 0},
		{"sqrt(sqrt(x)) = 2", "2", "2 hidden hidden 2", 0},
		{"sqrt(sqrt(x)) = 2", "-4", "-4 none none 2", -1},
		{"sqrt(-sqrt(x)) = 2", "4", "4 2 -2 none 2", -1},
		{"sqrt(-sqrt(x)) = 0", "2", "2 hidden hidden hidden 0", 0},
		{"sqrt(x)^2 = x", "2", "2 hidden hidden", 0},
		{"sqrt(x^2) = abs(x)", "-2", "-2 4 2 2", 1},
		{"sqrt(x * y) = 6", "4 9", "4 9 36 6 6", 1},
		{"sqrt(1e-400) = 1e-200", "0", "0 " + tenth(400) + " " + tenth(200) + " " + tenth(200), 1},
	})
	for top := range int64(40) {
		for bottom := range int64(40) {
			for _, r := range []*big.Rat{smallRat(top, bottom+1), smallRat(-top, bottom+1)} {
				checkPoint(t, graphOfLines(t, "var x", "sqrt(x) * sqrt(x) = x"), []*big.Rat{r})
			}
		}
	}
}

// tenth is 1 by a power of ten.
func tenth(power int) string {
	return impl.FracText(fracOf(rat(big.NewInt(1), new(big.Int).Exp(big.NewInt(10), big.NewInt(int64(power)), nil))))
}

// stateOfTerm is what a term of x, y and z is at a point.
func stateOfTerm(t *testing.T, term string, point []*big.Rat) int {
	t.Helper()
	g := graphOfLines(t, "var x", "var y", "var z", "z = "+term)
	nodes, _ := checkPoint(t, g, point)
	return nodes[g.Rels[0].Right].State
}

// A part that is none, one that is hidden, and both at once, in either order, under each kind of node.
func TestPartsWithoutValues(t *testing.T) {
	point := ratsOf(t, "2 0 4")
	// From what matters least to what matters most.
	states := []int{impl.PointValue, impl.PointHidden, impl.PointNone}
	texts := []string{"z", "sqrt(x)", "(1 / y)"}
	for rank, first := range texts {
		for _, term := range []string{"-" + first, "abs(" + first + ")", "sqrt(" + first + ")", first + "^0", first + "^1", first + "^8"} {
			if got := stateOfTerm(t, term, point); got != states[rank] {
				t.Errorf("%s: %d", term, got)
			}
		}
		for other, second := range texts {
			for _, term := range []string{first + " + " + second, first + " - " + second, first + " * " + second, first + " / " + second, "min(" + first + ", " + second + ")", "max(" + first + ", " + second + ")"} {
				if got := stateOfTerm(t, term, point); got != states[max(rank, other)] {
					t.Errorf("%s: %d", term, got)
				}
			}
		}
	}
}

// What divides by 0 is none, whatever it divides; 0 by what is hidden is hidden, as that may be 0 or not.
func TestHiddenPartsOfQuotients(t *testing.T) {
	checkPointCases(t, []pointCase{
		{"sqrt(x) / 0 = 0", "2", "2 hidden 0 none", -1},
		{"sqrt(x) / y = 0", "2 0", "2 0 hidden none 0", -1},
		{"sqrt(x) / y = 0", "2 1", "2 1 hidden hidden 0", 0},
		{"0 / sqrt(x) = 0", "2", "2 0 hidden hidden", 0},
		{"y / sqrt(x) = 0", "2 1", "2 1 hidden hidden 0", 0},
		{"y / sqrt(x) = 0", "0 1", "0 1 0 none 0", -1},
		{"sqrt(x) / sqrt(x) = 1", "2", "2 hidden hidden 1", 0},
		{"sqrt(x) / (sqrt(x) - sqrt(x)) = 1", "2", "2 hidden hidden hidden 1", 0},
		{"(1 / y) / 0 = 0", "2 0", "2 0 1 none 0 none", -1},
		{"(1 / y) / sqrt(x) = 0", "2 0", "2 0 1 none hidden none 0", -1},
		{"sqrt(x) / (1 / y) = 0", "2 0", "2 0 hidden 1 none none 0", -1},
		{"0 * sqrt(x) = 0", "2", "2 0 hidden hidden", 0},
		{"sqrt(x) * 0 = 0", "2", "2 hidden 0 hidden", 0},
		{"sqrt(x) - sqrt(x) = 0", "2", "2 hidden hidden 0", 0},
		{"1 / (sqrt(x) * 0 + sqrt(-x)) <= 1", "2", "2 1 hidden 0 hidden -2 none none none", -1},
		{"1 / (sqrt(-x) + sqrt(x) * 0) <= 1", "2", "2 1 -2 none hidden 0 hidden none none", -1},
		{"sqrt(-x) / 0 = 1", "2", "2 -2 none 0 none 1", -1},
		{"sqrt(-abs(sqrt(x))) = 0", "2", "2 hidden hidden hidden hidden 0", 0},
		{"min(0, sqrt(x)) = 0", "2", "2 0 hidden hidden", 0},
		{"max(0, sqrt(x)) = 0", "2", "2 0 hidden hidden", 0},
	})
}

func TestPointsOfSomeGraphs(t *testing.T) {
	t.Parallel()
	s := spread{230}
	seen, kinds := map[int]int{}, map[[2]int]int{}
	for at := range 1500 {
		g := someGraph(&s, []int{0, 2, 5, 12, 40}[at%5])
		nodes, holds := checkPoint(t, g, somePoint(&s, g.Vars))
		seen[holds]++
		for place, node := range nodes {
			kinds[[2]int{g.Nodes[place].Kind, node.State}]++
		}
	}
	if seen[-1] < 300 || seen[0] < 20 || seen[1] < 50 {
		t.Errorf("only so many of each: %v", seen)
	}
	for kind := impl.TermNeg; kind <= impl.TermMax; kind++ {
		for state := impl.PointValue; state <= impl.PointHidden; state++ {
			if kinds[[2]int{kind, state}] < 20 {
				t.Errorf("only %d nodes of kind %d and state %d", kinds[[2]int{kind, state}], kind, state)
			}
		}
	}
}
