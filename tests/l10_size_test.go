package tests

import (
	"testing"

	"loop.example/pinfold/impl"
)

// backOne goes back over one span that is known, and narrows a second.
type backOne func(width int, z impl.Span, x impl.Span) impl.Span

func checkBackOne(t *testing.T, width int, what string, back backOne, cases []spanCase) {
	t.Helper()
	for _, row := range cases {
		checkSpan(t, width, what, row.a, row.b, back(width, row.a, row.b), row.want)
	}
}

func TestRootsOfSquaresGoBackAtEdges(t *testing.T) {
	for _, width := range bothWidths() {
		n := numbersOf(width)
		none := impl.Span{}
		wide := n.at(-100, 100)
		checkBackOne(t, width, "BackRoot", impl.BackRoot, []spanCase{
			{n.at(2, 3), wide, n.at(4, 9)}, {n.at(2, 3), n.at(-10, 5), n.at(4, 5)}, {n.at(2, 3), n.at(-10, 3), none}, {n.at(0, 3), wide, n.at(0, 9)}, {single(0), wide, single(0)}, {single(0), n.at(1, 2), none},
			// z begins below 0, ends at 0, is below 0 throughout: what is below 0 is no root.
			{n.at(-2, 3), wide, n.at(0, 9)}, {n.at(-5, 3), wide, n.at(0, 9)}, {n.at(-5, 3), n.at(10, 30), none}, {n.at(-5, 0), wide, single(0)}, {n.at(-5, 0), n.at(1, 30), none}, {n.upTo(0), n.all(), single(0)}, {n.at(-3, -2), wide, none}, {n.at(-3, -2), n.all(), none}, {n.upTo(-2), n.all(), none}, {single(-1), n.all(), none},
			// Without bounds, and the least and the greatest floats.
			{n.from(2), n.all(), n.from(4)}, {n.all(), n.all(), n.from(0)}, {n.upTo(3), n.all(), n.at(0, 9)}, {n.from(2), n.upTo(5), n.at(4, 5)}, {single(1), n.all(), spanOf(0, 1)}, {single(n.top - 1), n.all(), spanOf(n.top-1, n.top)}, {single(n.one + 1), n.all(), spanOf(n.one+2, n.one+3)},
		})
	}
}

func TestSizesGoBackAtEdges(t *testing.T) {
	for _, width := range bothWidths() {
		n := numbersOf(width)
		none := impl.Span{}
		wide := n.at(-10, 10)
		checkBackOne(t, width, "BackAbs", impl.BackAbs, []spanCase{
			{n.at(2, 3), wide, n.at(-3, 3)}, {n.at(2, 3), n.at(-10, 0), n.at(-3, -2)}, {n.at(2, 3), n.at(0, 10), n.at(2, 3)}, {n.at(2, 3), n.at(-1, 1), none}, {n.at(2, 3), n.at(-2, 1), n.at(-2, -2)}, {n.at(2, 3), n.at(-2.5, 2.75), n.at(-2.5, 2.75)}, {n.at(2, 3), n.at(4, 9), none}, {single(0), wide, single(0)}, {single(1), n.all(), spanOf(-1, 1)}, {n.at(2, 2), n.at(2, 2), n.at(2, 2)},
			// z begins below 0, ends at 0, is below 0 throughout.
			{n.at(-5, 3), wide, n.at(-3, 3)}, {n.at(-2, 3), n.at(1, 10), n.at(1, 3)}, {n.at(-5, 3), n.at(4, 10), none}, {n.at(-5, 3), n.at(-5, -4), none}, {n.at(-5, 0), wide, single(0)}, {n.at(-5, 0), n.at(-5, -1), none}, {n.upTo(0), n.all(), single(0)}, {n.at(-3, -2), wide, none}, {n.upTo(-2), n.all(), none}, {single(-1), n.all(), none},
			// Without bounds.
			{n.from(2), n.all(), n.all()}, {n.from(2), n.at(-3, 1), n.at(-3, -2)}, {n.from(2), n.from(-1), n.from(2)}, {n.all(), wide, wide}, {n.upTo(3), n.all(), n.at(-3, 3)}, {spanOf(n.top-1, n.top), n.all(), n.all()}, {spanOf(n.top-1, n.top), n.from(0), spanOf(n.top-1, n.top)},
		})
	}
}

func TestLesserOnesGoBackAtEdges(t *testing.T) {
	for _, width := range bothWidths() {
		n := numbersOf(width)
		none, no := impl.Span{}, impl.Pair{}
		wide := n.at(0, 10)
		checkBackCases(t, width, "BackMin", impl.BackMin, []backCase{
			// y below z throughout: it would be the lesser one.
			{n.at(2, 3), n.at(0, 1), wide, none, no}, {n.at(2, 3), n.upTo(1), n.all(), none, no}, {single(1), single(0), n.all(), none, no}, {n.from(2), n.at(0, 1), n.all(), none, no},
			// y above z throughout: it can't be the lesser one.
			{n.at(2, 3), n.at(5, 6), wide, n.at(2, 3), no}, {n.at(2, 3), n.at(5, 6), n.at(4, 10), none, no}, {n.upTo(3), n.from(4), wide, n.at(0, 3), no}, {single(0), single(1), n.all(), single(0), no}, {n.at(2, 3), n.at(5, 6), n.upTo(2.5), n.at(2, 2.5), no},
			// Floats in common, at an end or all over.
			{n.at(2, 3), n.at(1, 6), wide, n.at(2, 10), no}, {n.at(2, 3), n.at(0, 2), wide, n.at(2, 10), no}, {n.at(2, 3), n.at(3, 4), wide, n.at(2, 10), no}, {n.at(2, 3), n.at(2, 3), n.at(0, 1), none, no}, {n.at(2, 3), n.at(2.5, 2.5), n.all(), n.from(2), no}, {single(0), single(0), spanOf(-1, 1), spanOf(0, 1), no}, {n.all(), n.all(), wide, wide, no}, {n.upTo(3), n.at(1, 2), n.all(), n.all(), no}, {n.from(2), n.from(5), n.at(0, 4), n.at(2, 4), no},
		})
		checkBackCases(t, width, "BackMax", impl.BackMax, []backCase{
			// y above z throughout: it would be the greater one.
			{n.at(2, 3), n.at(5, 6), wide, none, no}, {n.at(2, 3), n.from(4), n.all(), none, no}, {single(0), single(1), n.all(), none, no}, {n.upTo(3), n.at(5, 6), n.all(), none, no},
			// y below z throughout: it can't be the greater one.
			{n.at(2, 3), n.at(0, 1), wide, n.at(2, 3), no}, {n.at(2, 3), n.at(0, 1), n.at(4, 10), none, no}, {n.from(2), n.upTo(1), wide, n.at(2, 10), no}, {single(1), single(0), n.all(), single(1), no}, {n.at(2, 3), n.at(0, 1), n.from(2.5), n.at(2.5, 3), no},
			// Floats in common, at an end or all over.
			{n.at(2, 3), n.at(1, 6), wide, n.at(0, 3), no}, {n.at(2, 3), n.at(0, 2), wide, n.at(0, 3), no}, {n.at(2, 3), n.at(3, 4), wide, n.at(0, 3), no}, {n.at(2, 3), n.at(2, 3), n.at(4, 5), none, no}, {n.at(2, 3), n.at(2.5, 2.5), n.all(), n.upTo(3), no}, {single(0), single(0), spanOf(-1, 1), spanOf(-1, 0), no}, {n.all(), n.all(), wide, wide, no}, {n.from(2), n.at(5, 6), n.all(), n.all(), no}, {n.upTo(3), n.upTo(1), n.at(0, 4), n.at(0, 3), no},
		})
	}
}

func TestRootsAndSizesGoBackByTheirParts(t *testing.T) {
	for _, width := range bothWidths() {
		narrowed := append(edgeSpans(width), someSpans(width, 24)...)
		for _, z := range narrowed {
			sizes := fromNought(width, z)
			squares := impl.Span{}
			if sizes.Some {
				squares = spanAround(width, powerReach(reachOf(width, sizes), 2))
			}
			for _, x := range narrowed {
				checkSpan(t, width, "BackRoot", z, x, impl.BackRoot(width, z, x), common(x, squares))
				checkSpan(t, width, "BackAbs", z, x, impl.BackAbs(width, z, x), leftOf(x, sizes, mirrored(sizes)))
			}
		}
	}
}

func TestLesserOnesGoBackByTheirParts(t *testing.T) {
	t.Parallel()
	for _, width := range bothWidths() {
		known := spansToAsk(width, 2, 18)
		for _, z := range known {
			for _, y := range known {
				lesser := lesserPart(width, z, y)
				greater := mirrored(lesserPart(width, mirrored(z), mirrored(y)))
				for _, x := range known {
					checkBack(t, width, "BackMin", z, y, x, impl.BackMin(width, z, y, x), common(x, lesser))
					checkBack(t, width, "BackMax", z, y, x, impl.BackMax(width, z, y, x), common(x, greater))
				}
			}
		}
	}
}
