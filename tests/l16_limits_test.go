package tests

import (
	"math/big"
	"testing"

	"loop.example/pinfold/impl"
)

// limitRow is a node over two variables, or over the first one, and whether its value has room.
type limitRow struct {
	node  impl.GraphNode
	a, b  *big.Rat
	there bool
}

func addAt() impl.GraphNode { return impl.GraphNode{Kind: impl.TermAdd, B: 1} }
func subAt() impl.GraphNode { return impl.GraphNode{Kind: impl.TermSub, B: 1} }
func mulAt() impl.GraphNode { return impl.GraphNode{Kind: impl.TermMul, B: 1} }
func divAt() impl.GraphNode { return impl.GraphNode{Kind: impl.TermDiv, B: 1} }

func powAt(n int) impl.GraphNode { return impl.GraphNode{Kind: impl.TermPow, N: n} }

// checkLimits wants a value of each row that is there, and hidden of all others.
func checkLimits(t *testing.T, rows []limitRow) {
	t.Helper()
	for at, row := range rows {
		g := varsGraph(2, 2)
		g.Rels = []impl.GraphRel{{Kind: impl.ProgEqual}}
		g.Nodes = append(g.Nodes, row.node)
		nodes, holds := checkPoint(t, g, []*big.Rat{row.a, row.b})
		want, wantHolds := impl.PointHidden, 0
		if row.there {
			want, wantHolds = impl.PointValue, 1
		}
		if nodes[2].State != want || holds != wantHolds {
			t.Errorf("row %d: state %d, holds %d", at, nodes[2].State, holds)
		}
	}
}

// Answers of just NatMaxDigits digits, above and below the stroke, and of one more; what is too long on the way comes to lowest terms first.
func TestValuesAtTheLimit(t *testing.T) {
	most, half, first := mostNat(), powerOfTwo(2048), smallRat(1, 1)
	below, above := moved(half, -1), moved(half, 1)
	unit := big.NewInt(1)
	checkLimits(t, []limitRow{
		{addAt(), wholeRat(moved(most, -1)), first, true}, {addAt(), wholeRat(most), first, false}, {addAt(), first, wholeRat(most), false},
		{addAt(), rat(unit, below), rat(unit, above), true}, {addAt(), rat(unit, half), rat(unit, above), false}, {addAt(), rat(moved(most, -1), most), rat(unit, most), true},
		{subAt(), wholeRat(most), first, true}, {subAt(), negRat(wholeRat(most)), first, false}, {subAt(), negRat(wholeRat(moved(most, -1))), first, true}, {subAt(), rat(unit, half), rat(unit, above), false}, {subAt(), rat(most, moved(most, -1)), rat(most, moved(most, -1)), true},
		{mulAt(), wholeRat(below), wholeRat(above), true}, {mulAt(), wholeRat(half), wholeRat(half), false}, {mulAt(), rat(unit, below), rat(unit, above), true}, {mulAt(), rat(unit, half), rat(unit, half), false},
		{mulAt(), rat(most, powerOfTwo(4095)), wholeRat(powerOfTwo(4095)), true}, {mulAt(), rat(most, powerOfTwo(4094)), wholeRat(powerOfTwo(4095)), false},
		{divAt(), wholeRat(below), rat(unit, above), true}, {divAt(), wholeRat(half), rat(unit, half), false}, {divAt(), rat(unit, below), wholeRat(above), true}, {divAt(), rat(unit, half), wholeRat(half), false}, {divAt(), wholeRat(most), wholeRat(moved(most, -1)), true},
		{divAt(), new(big.Rat), wholeRat(most), true}, {mulAt(), new(big.Rat), rat(unit, most), true},
	})
}

// Powers to the highest one that may stand, of the greatest number that has room and of the next one.
func TestPowersAtTheLimit(t *testing.T) {
	other := new(big.Rat)
	for n := 2; n <= impl.TermMaxPower; n++ {
		most := mostWithPower(n)
		next := moved(most, 1)
		checkLimits(t, []limitRow{
			{powAt(n), wholeRat(most), other, true}, {powAt(n), wholeRat(next), other, false}, {powAt(n), rat(big.NewInt(-1), most), other, true}, {powAt(n), rat(big.NewInt(-1), next), other, false}, {powAt(n), rat(most, next), other, false}, {powAt(n), rat(next, most), other, false}, {powAt(n), rat(most, moved(most, -1)), other, true},
		})
	}
	for _, r := range []*big.Rat{wholeRat(mostNat()), rat(big.NewInt(1), mostNat()), rat(moved(mostNat(), -1), mostNat())} {
		checkLimits(t, []limitRow{
			{powAt(0), r, other, true}, {powAt(1), r, other, true}, {powAt(2), r, other, false}, {powAt(8), r, other, false},
			{impl.GraphNode{Kind: impl.TermNeg}, r, other, true}, {impl.GraphNode{Kind: impl.TermAbs}, negRat(r), other, true}, {impl.GraphNode{Kind: impl.TermMin, B: 1}, r, r, true}, {impl.GraphNode{Kind: impl.TermMax, B: 1}, other, r, true}, {impl.GraphNode{Kind: impl.TermMin, B: 1}, other, r, true},
		})
	}
}

// Roots of as many digits as can be, of squares and of what stands beside them.
func TestRootsAtTheLimit(t *testing.T) {
	root, other := mostWithPower(2), new(big.Rat)
	square := wholeRat(new(big.Int).Mul(root, root))
	beside := wholeRat(moved(square.Num(), -1))
	node := impl.GraphNode{Kind: impl.TermRoot}
	checkLimits(t, []limitRow{
		{node, square, other, true}, {node, beside, other, false}, {node, new(big.Rat).Inv(square), other, true}, {node, new(big.Rat).Inv(beside), other, false}, {node, rat(powerOfTwo(4094), square.Num()), other, true}, {node, rat(powerOfTwo(4095), square.Num()), other, false}, {node, wholeRat(mostNat()), other, false},
	})
}

// Two great values are told from each other to the last digit, and a relation of them holds or not by that.
func TestGreatValuesAreCompared(t *testing.T) {
	most := mostNat()
	lesser, greater := rat(moved(most, -2), moved(most, -1)), rat(moved(most, -1), most)
	for _, c := range []struct {
		kind         int
		same, up, dn int
	}{{impl.ProgLess, 1, 1, -1}, {impl.ProgMore, 1, -1, 1}, {impl.ProgEqual, 1, -1, -1}} {
		g := varsGraph(2, 2)
		g.Rels = []impl.GraphRel{{Kind: c.kind, Left: 0, Right: 1}}
		for _, row := range []struct {
			a, b *big.Rat
			want int
		}{{lesser, lesser, c.same}, {lesser, greater, c.up}, {greater, lesser, c.dn}, {negRat(lesser), negRat(greater), c.dn}, {negRat(greater), negRat(lesser), c.up}} {
			if _, holds := checkPoint(t, g, []*big.Rat{row.a, row.b}); holds != row.want {
				t.Errorf("kind %d: %d, not %d", c.kind, holds, row.want)
			}
		}
	}
	g := varsGraph(2, 2)
	g.Nodes = append(g.Nodes, impl.GraphNode{Kind: impl.TermMin, A: 0, B: 1}, impl.GraphNode{Kind: impl.TermMax, A: 0, B: 1})
	for _, point := range [][]*big.Rat{{lesser, greater}, {greater, lesser}} {
		nodes, _ := checkPoint(t, g, point)
		if !isFrac(nodes[2].Value, lesser) || !isFrac(nodes[3].Value, greater) {
			t.Errorf("the lesser and the greater: %v", nodes[2:])
		}
	}
}

// From a value that has no more room on all that is made of it is hidden, through as many nodes as can be.
func TestHiddenGoesUp(t *testing.T) {
	g := leastGraph()
	for at := range 119 {
		g.Nodes = append(g.Nodes, impl.GraphNode{Kind: impl.TermMul, A: at, B: at})
	}
	for _, c := range []struct{ base, told int }{{2, 12}, {3, 12}, {1, 120}, {0, 120}, {-1, 120}, {65536, 8}} {
		nodes, holds := checkPoint(t, g, []*big.Rat{smallRat(int64(c.base), 1)})
		told := 0
		for _, node := range nodes {
			if node.State == impl.PointValue {
				told++
			}
		}
		if told != c.told || holds == 1 != (told == 120) {
			t.Errorf("%d squared again and again: %d values, holds %d", c.base, told, holds)
		}
	}
}

// Great values at each node of a great graph: it comes to an end soon.
func TestGreatGraphsAtGreatPoints(t *testing.T) {
	most := mostNat()
	g := varsGraph(6, 6)
	var point []*big.Rat
	for at := range 6 {
		point = append(point, rat(moved(most, int64(-2*at)), moved(most, int64(-2*at-1))))
	}
	for at := range 6 {
		for other := range 6 {
			g.Nodes = append(g.Nodes, impl.GraphNode{Kind: impl.TermDiv, A: at, B: other}, impl.GraphNode{Kind: impl.TermMin, A: at, B: other}, impl.GraphNode{Kind: impl.TermSub, A: at, B: other})
		}
	}
	checkPoint(t, g, point)
}
