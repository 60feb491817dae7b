package tests

import (
	"testing"

	"loop.example/pinfold/impl"
)

// factorCases are factors at the edges that the document names, with the gap of each.
func factorCases(width int) []backCase {
	n := numbersOf(width)
	none, nought, no := impl.Span{}, single(0), impl.Pair{}
	wide := n.at(-10, 10)
	gap := func(lo float64, hi float64) impl.Pair { return pairOfSpan(n.at(lo, hi)) }
	third := besides(width, smallRat(1, 3))
	return []backCase{
		// Neither has 0.
		{n.at(6, 8), n.at(2, 2), n.at(0, 100), n.at(3, 4), no}, {n.at(6, 8), n.at(2, 4), wide, n.at(1.5, 4), no}, {n.at(6, 8), n.at(-4, -2), wide, n.at(-4, -1.5), no}, {n.at(-8, -6), n.at(2, 4), n.at(-2, 10), n.at(-2, -1.5), no}, {n.at(6, 8), n.at(2, 4), n.at(5, 9), none, no},
		{n.at(1, 1), n.at(3, 3), n.all(), spanOf(third.Lo, third.Hi), no}, {n.at(1, 1), n.at(-3, -3), n.all(), spanOf(-third.Hi, -third.Lo), no}, {n.from(6), n.at(2, 4), wide, n.at(1.5, 10), no}, {n.at(6, 8), n.from(2), wide, n.at(0, 4), no}, {n.upTo(-6), n.upTo(-2), n.at(-5, 5), n.at(0, 5), no},
		// Both have it: x stays, whatever it is.
		{n.at(0, 8), n.at(-1, 2), n.at(-7, 100), n.at(-7, 100), no}, {nought, nought, n.at(3, 5), n.at(3, 5), no}, {n.at(-1, 0), n.at(0, 3), n.from(4), n.from(4), no}, {n.at(0, 1), n.at(-3, 0), nought, nought, no}, {n.all(), n.all(), n.all(), n.all(), no}, {n.at(-1, 1), nought, n.upTo(4), n.upTo(4), no}, {nought, n.at(-1, 1), wide, wide, no},
		// z alone has it.
		{n.at(-2, 4), n.at(1, 2), wide, n.at(-2, 4), no}, {n.at(0, 4), n.at(1, 2), wide, n.at(0, 4), no}, {n.at(-4, 0), n.at(1, 2), wide, n.at(-4, 0), no}, {n.at(0, 4), n.at(-2, -1), wide, n.at(-4, 0), no}, {nought, n.at(1, 2), wide, nought, no}, {nought, n.at(-2, -1), n.at(1, 10), none, no}, {n.at(-4, 0), n.at(1, 2), n.at(5, 6), none, no}, {nought, single(1), n.all(), nought, no}, {n.all(), n.at(1, 2), wide, wide, no},
		// y alone has it, inside: x meets both parts, one of them, or none.
		{n.at(2, 4), n.at(-1, 2), wide, wide, gap(-2, 1)}, {n.at(2, 4), n.at(-1, 2), n.at(-1.5, 10), n.at(1, 10), no}, {n.at(2, 4), n.at(-1, 2), n.at(-10, 0.5), n.at(-10, -2), no}, {n.at(2, 4), n.at(-1, 2), n.at(-1.5, 0.5), none, no}, {n.at(2, 4), n.at(-1, 2), n.at(-2, 1), n.at(-2, 1), gap(-2, 1)}, {n.at(2, 4), n.at(-1, 2), n.at(-2, 0.5), n.at(-2, -2), no}, {n.at(2, 4), n.at(-1, 2), n.at(-1.5, 1), n.at(1, 1), no}, {n.at(2, 4), n.at(-1, 2), nought, none, no},
		{n.at(-4, -2), n.at(-1, 2), wide, wide, gap(-1, 2)}, {n.at(-4, -2), n.at(-1, 2), n.at(-10, 1), n.at(-10, -1), no}, {n.at(-4, -2), n.at(-1, 2), n.at(-0.5, 3), n.at(2, 3), no}, {n.at(1, 1), n.at(-1, 1), n.at(-5, 7), n.at(-5, 7), gap(-1, 1)}, {n.at(1, 1), n.at(-1, 1), n.at(0, 7), n.at(1, 7), no},
		{n.from(1), n.at(-1, 1), n.all(), n.all(), gap(-1, 1)}, {n.at(1, 1), n.upTo(1), n.at(-5, 5), n.at(-5, 5), gap(0, 1)}, {n.at(1, 1), n.from(-1), n.at(-5, 5), n.at(-5, 5), gap(-1, 0)}, {n.at(1, 1), n.upTo(1), nought, nought, no}, {n.at(1, 1), n.all(), n.at(-5, 5), n.at(-5, 5), no},
		// At either end of y.
		{n.at(2, 4), n.at(0, 2), wide, n.at(1, 10), no}, {n.at(2, 4), n.at(-2, 0), wide, n.at(-10, -1), no}, {n.at(-4, -2), n.at(0, 2), wide, n.at(-10, -1), no}, {n.at(-4, -2), n.at(-2, 0), wide, n.at(1, 10), no}, {n.at(2, 4), n.at(0, 2), n.at(-10, 0.5), none, no}, {n.at(2, 4), n.from(0), wide, n.at(0, 10), no},
		// y is just 0.
		{n.at(2, 4), nought, n.all(), none, no}, {single(1), nought, nought, none, no}, {n.upTo(-2), nought, wide, none, no},
		// A gap of one step, of two, and parts that have a float in common.
		{single(1), n.at(-1, 2), n.all(), n.all(), impl.Pair{Lo: -1}}, {single(1), n.at(-2, 1), n.all(), n.all(), impl.Pair{Hi: 1}}, {single(1), n.at(-1, 2), spanOf(-1, 0), spanOf(-1, 0), impl.Pair{Lo: -1}}, {single(1), n.at(-1, 2), nought, nought, no}, {single(1), n.at(-1, 1), spanOf(-1, 1), spanOf(-1, 1), impl.Pair{Lo: -1, Hi: 1}}, {single(1), n.at(-1, 1), nought, none, no}, {single(1), n.at(-2, 2), n.all(), n.all(), no}, {single(1), n.at(-2, 2), spanOf(-1, 1), spanOf(-1, 1), no},
		// The greatest finite floats.
		{single(n.top - 1), n.at(-0.5, 0.5), n.all(), n.all(), impl.Pair{Lo: 1 - n.top, Hi: n.top - 1}}, {single(n.top - 1), n.at(-0.5, 0.5), wide, none, no}, {single(n.top - 1), n.at(1, 2), n.all(), spanOf(ordOf(width, valueOf(width, n.top-1)/2), n.top-1), no},
	}
}

func TestFactorsGoBackAtEdges(t *testing.T) {
	for _, width := range bothWidths() {
		checkBackCases(t, width, "BackMul", impl.BackMul, factorCases(width))
	}
}

func TestGapsOfFactorsAtEdges(t *testing.T) {
	for _, width := range bothWidths() {
		for _, row := range factorCases(width) {
			checkGap(t, width, row.z, row.y, row.x, row.gap)
		}
	}
}

// Over all edges: x met with each part of the quotients, and the gap between, if both meet.
func TestFactorsGoBackByQuotients(t *testing.T) {
	t.Parallel()
	for _, width := range bothWidths() {
		known := append(edgeSpans(width), someSpans(width, 18)...)
		narrowed := spansToNarrow(width)
		for _, z := range known {
			for _, y := range known {
				first, second := factorParts(width, z, y)
				for _, x := range narrowed {
					checkBack(t, width, "BackMul", z, y, x, impl.BackMul(width, z, y, x), leftOf(x, first, second))
					gap := impl.Pair{}
					if low, high := common(x, first), common(x, second); low.Some && high.Some {
						gap = impl.Pair{Lo: low.Hi, Hi: high.Lo}
					}
					checkGap(t, width, z, y, x, gap)
				}
			}
		}
	}
}

func TestWhatIsDividedGoesBackAtEdges(t *testing.T) {
	for _, width := range bothWidths() {
		n := numbersOf(width)
		none, nought, no := impl.Span{}, single(0), impl.Pair{}
		wide := n.at(-100, 100)
		checkBackCases(t, width, "BackTop", impl.BackTop, []backCase{
			{n.at(2, 3), n.at(4, 5), n.at(0, 10), n.at(8, 10), no}, {n.at(2, 3), n.at(-5, -4), wide, n.at(-15, -8), no}, {n.at(-3, 2), n.at(4, 5), wide, n.at(-15, 10), no}, {n.at(2, 3), n.at(4, 5), n.at(0, 7), none, no},
			// y is just 0.
			{n.at(2, 3), nought, n.at(0, 10), none, no}, {n.all(), nought, n.all(), none, no}, {nought, nought, nought, none, no}, {n.at(-1, 1), nought, nought, none, no},
			// 0 lies inside y, and at either end.
			{n.at(2, 3), n.at(-1, 5), wide, n.at(-3, 15), no}, {n.at(2, 3), n.at(0, 5), wide, n.at(0, 15), no}, {n.at(2, 3), n.at(-5, 0), wide, n.at(-15, 0), no}, {n.at(2, 3), n.at(-1, 5), nought, nought, no}, {n.at(2, 3), n.at(0, 5), n.at(-9, -1), none, no}, {n.at(2, 3), n.at(-5, 0), n.at(1, 9), none, no}, {n.at(1, 1), spanOf(-1, 1), n.all(), spanOf(-1, 1), no}, {n.at(1, 1), spanOf(0, 1), n.all(), spanOf(0, 1), no}, {n.at(1, 1), spanOf(-1, 0), n.all(), spanOf(-1, 0), no},
			// Without bounds, and the least and the greatest floats.
			{n.from(2), n.at(0, 1), n.at(-5, 5), n.at(0, 5), no}, {n.all(), n.at(-1, 1), n.at(-5, 5), n.at(-5, 5), no}, {nought, n.all(), n.at(-5, 5), nought, no}, {nought, n.all(), n.at(1, 5), none, no}, {n.upTo(-2), n.from(3), n.all(), n.upTo(-6), no},
			{n.at(3, 3), single(1), n.all(), single(3), no}, {single(1), single(1), n.all(), spanOf(0, 1), no}, {single(n.top - 1), single(n.top - 1), n.all(), spanOf(n.top-1, n.top), no},
		})
	}
}

func TestWhatDividesGoesBackAtEdges(t *testing.T) {
	for _, width := range bothWidths() {
		n := numbersOf(width)
		none, nought, no := impl.Span{}, single(0), impl.Pair{}
		wide := n.at(-10, 10)
		// In the rows x stands ahead of y, which is narrowed, as in the function.
		checkBackCases(t, width, "BackBottom", impl.BackBottom, []backCase{
			{n.at(2, 3), n.at(6, 6), n.at(0, 10), n.at(2, 3), no}, {n.at(2, 3), n.at(-6, -6), wide, n.at(-3, -2), no}, {n.at(2, 4), n.at(4, 8), wide, n.at(1, 4), no}, {n.at(2, 3), n.at(6, 6), n.at(4, 10), none, no}, {n.at(1, 2), n.at(0, 4), wide, n.at(0, 4), no},
			// y is just 0, whatever z and x are.
			{n.at(2, 3), n.at(6, 6), nought, none, no}, {n.at(-1, 1), n.at(-1, 1), nought, none, no}, {nought, nought, nought, none, no}, {n.all(), n.all(), nought, none, no}, {n.at(0, 1), n.at(0, 1), nought, none, no},
			// 0 lies inside y, and at either end.
			{n.at(-1, 1), n.at(2, 4), wide, wide, no}, {n.at(-1, 1), n.at(2, 4), n.at(-1, 5), n.at(2, 5), no}, {n.at(-1, 1), n.at(2, 4), n.at(-5, 1), n.at(-5, -2), no}, {n.at(-1, 1), n.at(2, 4), n.at(-1, 1), none, no}, {n.at(1, 2), n.at(2, 4), n.at(0, 10), n.at(1, 4), no}, {n.at(1, 2), n.at(2, 4), n.at(-10, 0), none, no}, {n.at(1, 2), n.at(-4, -2), n.at(-10, 0), n.at(-4, -1), no}, {n.at(1, 2), n.at(-4, -2), n.at(0, 10), none, no},
			// z and x both have 0, or one of them.
			{n.at(0, 1), n.at(0, 4), n.at(-3, 0), n.at(-3, 0), no}, {nought, nought, wide, wide, no}, {nought, n.at(1, 2), wide, none, no}, {n.at(0, 2), n.at(2, 4), wide, n.at(1, 10), no}, {n.at(1, 2), nought, wide, nought, no},
			{n.at(1, 2), n.from(2), n.all(), n.from(1), no}, {n.from(1), n.at(2, 4), n.all(), n.at(0, 4), no}, {n.from(1), n.at(2, 4), spanOf(-n.top, -1), none, no},
		})
	}
}

func TestQuotientsGoBackByProducts(t *testing.T) {
	t.Parallel()
	for _, width := range bothWidths() {
		known := append(spansToAsk(width, 3, 12), single(0))
		narrowed := spansToNarrow(width)
		for _, z := range known {
			for _, y := range known {
				part := spanAround(width, productReach(reachOf(width, z), reachOf(width, y)))
				first, second := factorParts(width, y, z)
				if y == single(0) {
					part = impl.Span{}
				}
				for _, x := range narrowed {
					checkBack(t, width, "BackTop", z, y, x, impl.BackTop(width, z, y, x), common(x, part))
					want := leftOf(x, first, second)
					if x == single(0) {
						want = impl.Span{}
					}
					checkBack(t, width, "BackBottom", z, y, x, impl.BackBottom(width, z, y, x), want)
				}
			}
		}
	}
}
