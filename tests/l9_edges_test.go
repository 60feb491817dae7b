package tests

import (
	"testing"

	"loop.example/pinfold/impl"
)

// spanNumbers are the bounds by which the tables below tell spans of a width.
type spanNumbers struct {
	width int
	top   int
	one   int
}

func numbersOf(width int) spanNumbers { return spanNumbers{width, topOf(width), ordOf(width, 1)} }

// at is the span between two numbers that are floats.
func (n spanNumbers) at(lo float64, hi float64) impl.Span {
	return spanOf(ordOf(n.width, lo), ordOf(n.width, hi))
}

// from has no upper bound, upTo no lower one.
func (n spanNumbers) from(lo float64) impl.Span { return spanOf(ordOf(n.width, lo), n.top) }

func (n spanNumbers) upTo(hi float64) impl.Span { return spanOf(-n.top, ordOf(n.width, hi)) }

func (n spanNumbers) all() impl.Span { return spanOf(-n.top, n.top) }

// spanCase is two spans, and what is to be reckoned of them.
type spanCase struct{ a, b, want impl.Span }

func checkCases(t *testing.T, width int, what string, reckon func(int, impl.Span, impl.Span) impl.Span, cases []spanCase) {
	t.Helper()
	for _, row := range cases {
		checkSpan(t, width, what, row.a, row.b, reckon(width, row.a, row.b), row.want)
	}
}

func TestSumsOfSpansAtEdges(t *testing.T) {
	for _, width := range bothWidths() {
		n := numbersOf(width)
		least, greatest := single(1), single(n.top-1)
		checkCases(t, width, "SpanAdd", impl.SpanAdd, []spanCase{
			{n.at(1, 2), n.at(10, 20), n.at(11, 22)}, {n.at(-1, 2), n.at(-3, 4), n.at(-4, 6)}, {single(0), n.at(-3, 4), n.at(-3, 4)},
			{n.from(1), n.at(2, 3), n.from(3)}, {n.upTo(1), n.at(2, 3), n.upTo(4)}, {n.from(1), n.upTo(1), n.all()}, {n.from(1), n.from(2), n.from(3)}, {n.upTo(-1), n.upTo(-2), n.upTo(-3)}, {n.all(), n.all(), n.all()}, {n.all(), single(0), n.all()},
			{greatest, greatest, spanOf(n.top-1, n.top)}, {greatest, least, spanOf(n.top-1, n.top)}, {greatest, single(-1), spanOf(n.top-2, n.top-1)}, {single(1 - n.top), single(-1), spanOf(-n.top, 1-n.top)}, {single(1 - n.top), single(1 - n.top), spanOf(-n.top, 1-n.top)}, {greatest, single(1 - n.top), single(0)},
			{least, least, single(2)}, {least, single(-1), single(0)}, {single(n.one), least, spanOf(n.one, n.one+1)}, {single(n.one), single(-1), spanOf(n.one-1, n.one)}, {single(-n.one), least, spanOf(-n.one, 1-n.one)},
			{spanOf(n.top-1, n.top), spanOf(n.top-1, n.top), spanOf(n.top-1, n.top)}, {spanOf(n.top-1, n.top), spanOf(-n.top, 1-n.top), n.all()},
		})
		checkCases(t, width, "SpanSub", impl.SpanSub, []spanCase{
			{n.at(1, 2), n.at(10, 20), n.at(-19, -8)}, {n.from(1), n.from(1), n.all()}, {n.from(1), n.upTo(3), n.from(-2)}, {n.upTo(1), n.from(3), n.upTo(-2)}, {n.at(1, 2), n.from(3), n.upTo(-1)}, {n.at(1, 2), n.upTo(3), n.from(-2)},
			{least, least, single(0)}, {greatest, single(1 - n.top), spanOf(n.top-1, n.top)}, {single(0), least, single(-1)},
		})
	}
}

func TestProductsOfSpansAtEdges(t *testing.T) {
	for _, width := range bothWidths() {
		n := numbersOf(width)
		least, greatest, nought := single(1), single(n.top-1), single(0)
		checkCases(t, width, "SpanMul", impl.SpanMul, []spanCase{
			{n.at(2, 3), n.at(5, 7), n.at(10, 21)}, {n.at(-3, -2), n.at(5, 7), n.at(-21, -10)}, {n.at(2, 3), n.at(-7, -5), n.at(-21, -10)}, {n.at(-3, -2), n.at(-7, -5), n.at(10, 21)},
			{n.at(-1, 2), n.at(-3, 4), n.at(-6, 8)}, {n.at(-4, 1), n.at(-3, 2), n.at(-8, 12)}, {n.at(-1, 2), n.at(5, 7), n.at(-7, 14)}, {n.at(-1, 2), n.at(-7, -5), n.at(-14, 7)},
			{n.at(0, 1), n.from(1), n.from(0)}, {n.from(1), n.at(0, 1), n.from(0)}, {n.at(-1, 0), n.from(1), n.upTo(0)}, {n.at(0, 1), n.upTo(-1), n.upTo(0)}, {n.at(-1, 0), n.upTo(-1), n.from(0)}, {n.at(0, 1), n.all(), n.all()},
			{nought, n.all(), nought}, {n.all(), nought, nought}, {nought, n.from(1), nought}, {nought, n.upTo(0), nought}, {nought, nought, nought}, {nought, n.from(0), nought},
			{n.from(0), n.from(0), n.from(0)}, {n.from(0), n.upTo(0), n.upTo(0)}, {n.upTo(0), n.upTo(0), n.from(0)}, {n.from(2), n.from(3), n.from(6)}, {n.upTo(-2), n.from(3), n.upTo(-6)}, {n.upTo(-2), n.upTo(-3), n.from(6)}, {n.upTo(2), n.from(3), n.all()}, {n.all(), n.all(), n.all()},
			{greatest, greatest, spanOf(n.top-1, n.top)}, {greatest, single(1 - n.top), spanOf(-n.top, 1-n.top)}, {greatest, n.at(2, 2), spanOf(n.top-1, n.top)}, {greatest, n.at(1, 1), greatest}, {least, least, spanOf(0, 1)}, {least, single(-1), spanOf(-1, 0)}, {single(-1), single(-1), spanOf(0, 1)},
			{least, n.at(0.5, 0.5), spanOf(0, 1)}, {least, n.at(-0.5, -0.5), spanOf(-1, 0)}, {least, n.at(3, 3), single(3)}, {single(n.one + 1), single(n.one + 1), spanOf(n.one+2, n.one+3)}, {least, n.from(1), spanOf(1, n.top)}, {least, n.all(), n.all()},
		})
	}
}

func TestPowersOfSpansAtEdges(t *testing.T) {
	for _, width := range bothWidths() {
		n := numbersOf(width)
		for _, row := range []struct {
			a     impl.Span
			power int
			want  impl.Span
		}{
			{n.at(-3, 2), 0, n.at(1, 1)}, {single(0), 0, n.at(1, 1)}, {n.all(), 0, n.at(1, 1)}, {n.upTo(0), 0, n.at(1, 1)}, {n.at(-3, 2), 1, n.at(-3, 2)}, {n.all(), 1, n.all()}, {single(1), 1, single(1)}, {spanOf(n.top-1, n.top), 1, spanOf(n.top-1, n.top)},
			{n.at(-3, 2), 2, n.at(0, 9)}, {n.at(-2, 3), 2, n.at(0, 9)}, {n.at(2, 3), 2, n.at(4, 9)}, {n.at(-3, -2), 2, n.at(4, 9)}, {n.at(0, 3), 2, n.at(0, 9)}, {n.at(-3, 0), 2, n.at(0, 9)}, {single(0), 2, single(0)},
			{n.at(-3, 2), 3, n.at(-27, 8)}, {n.at(-3, -2), 3, n.at(-27, -8)}, {n.at(0, 2), 3, n.at(0, 8)}, {n.at(-2, 0), 3, n.at(-8, 0)}, {n.at(-2, 3), 4, n.at(0, 81)}, {n.at(-2, 3), 5, n.at(-32, 243)}, {n.at(-2, 3), 6, n.at(0, 729)}, {n.at(-2, 3), 7, n.at(-128, 2187)}, {n.at(-2, 3), 8, n.at(0, 6561)}, {n.at(-3, -2), 8, n.at(256, 6561)},
			{n.upTo(2), 2, n.from(0)}, {n.upTo(-2), 2, n.from(4)}, {n.from(2), 2, n.from(4)}, {n.all(), 2, n.from(0)}, {n.all(), 3, n.all()}, {n.upTo(-2), 3, n.upTo(-8)}, {n.from(2), 3, n.from(8)}, {n.upTo(-2), 8, n.from(256)},
			{single(n.top - 1), 2, spanOf(n.top-1, n.top)}, {single(n.top - 1), 8, spanOf(n.top-1, n.top)}, {single(1 - n.top), 7, spanOf(-n.top, 1-n.top)}, {single(1 - n.top), 8, spanOf(n.top-1, n.top)}, {single(1), 2, spanOf(0, 1)}, {single(1), 8, spanOf(0, 1)}, {single(-1), 3, spanOf(-1, 0)}, {single(-1), 8, spanOf(0, 1)}, {single(n.one + 1), 2, spanOf(n.one+2, n.one+3)},
		} {
			checkSpan(t, width, "SpanPow", row.a, single(row.power), impl.SpanPow(width, row.a, row.power), row.want)
		}
	}
}

func TestRootsAndSizesOfSpansAtEdges(t *testing.T) {
	for _, width := range bothWidths() {
		n := numbersOf(width)
		none := impl.Span{}
		for _, row := range [][2]impl.Span{
			{n.at(-4, 9), n.at(0, 3)}, {n.at(4, 9), n.at(2, 3)}, {n.at(0.25, 0.25), n.at(0.5, 0.5)}, {n.at(-4, 0), single(0)}, {n.upTo(0), single(0)}, {single(0), single(0)}, {n.at(-9, -4), none}, {n.upTo(-4), none}, {single(-1), none}, {n.at(0, 1), n.at(0, 1)},
			{n.all(), n.from(0)}, {n.from(4), n.from(2)}, {n.from(-1), n.from(0)}, {n.upTo(9), n.at(0, 3)}, {single(n.one + 1), spanOf(n.one, n.one+1)}, {single(n.one - 1), spanOf(n.one-1, n.one)},
		} {
			checkSpan(t, width, "SpanRoot", row[0], row[0], impl.SpanRoot(width, row[0]), row[1])
		}
		for _, row := range [][2]impl.Span{
			{n.at(-3, 2), n.at(0, 3)}, {n.at(-2, 3), n.at(0, 3)}, {n.at(2, 3), n.at(2, 3)}, {n.at(-3, -2), n.at(2, 3)}, {n.at(-3, 0), n.at(0, 3)}, {n.at(0, 3), n.at(0, 3)}, {single(0), single(0)}, {n.all(), n.from(0)}, {n.upTo(-2), n.from(2)}, {n.upTo(2), n.from(0)}, {n.from(-2), n.from(0)},
		} {
			checkSpan(t, width, "SpanAbs", row[0], row[0], impl.SpanAbs(width, row[0]), row[1])
		}
		for _, row := range [][2]impl.Span{{n.at(-3, 2), n.at(-2, 3)}, {n.at(2, 3), n.at(-3, -2)}, {n.from(2), n.upTo(-2)}, {n.upTo(2), n.from(-2)}, {n.all(), n.all()}, {single(0), single(0)}, {single(1), single(-1)}} {
			checkSpan(t, width, "SpanNeg", row[0], row[0], impl.SpanNeg(width, row[0]), row[1])
		}
	}
	// The square root of 2 lies between two floats; that of the least float is a float at one width alone.
	checkSpan(t, 32, "SpanRoot", single(0x40000000), impl.Span{}, impl.SpanRoot(32, single(0x40000000)), spanOf(0x3fb504f3, 0x3fb504f4))
	checkSpan(t, 64, "SpanRoot", single(0x4000000000000000), impl.Span{}, impl.SpanRoot(64, single(0x4000000000000000)), spanOf(0x3ff6a09e667f3bcc, 0x3ff6a09e667f3bcd))
	checkSpan(t, 64, "SpanRoot", single(1), impl.Span{}, impl.SpanRoot(64, single(1)), single((1023-537)<<52))
	checkSpan(t, 32, "SpanRoot", single(1), impl.Span{}, impl.SpanRoot(32, single(1)), spanOf(0x1a3504f3, 0x1a3504f4))
}

func TestLesserAndGreaterOfSpansAtEdges(t *testing.T) {
	for _, width := range bothWidths() {
		n := numbersOf(width)
		checkCases(t, width, "SpanMin", impl.SpanMin, []spanCase{
			{n.at(1, 5), n.at(2, 3), n.at(1, 3)}, {n.at(1, 2), n.at(3, 4), n.at(1, 2)}, {n.from(1), n.at(2, 3), n.at(1, 3)}, {n.from(1), n.from(2), n.from(1)}, {n.upTo(1), n.at(2, 3), n.upTo(1)}, {n.all(), n.at(2, 3), n.upTo(3)}, {n.all(), n.all(), n.all()}, {single(0), single(-1), single(-1)},
		})
		checkCases(t, width, "SpanMax", impl.SpanMax, []spanCase{
			{n.at(1, 5), n.at(2, 3), n.at(2, 5)}, {n.at(1, 2), n.at(3, 4), n.at(3, 4)}, {n.upTo(3), n.at(1, 2), n.at(1, 3)}, {n.upTo(3), n.upTo(2), n.upTo(3)}, {n.from(1), n.at(2, 3), n.from(2)}, {n.all(), n.at(2, 3), n.from(2)}, {n.all(), n.all(), n.all()}, {single(0), single(-1), single(0)},
		})
	}
}

func TestQuotientsOfSpansAtEdges(t *testing.T) {
	for _, width := range bothWidths() {
		n := numbersOf(width)
		none, nought := impl.Span{}, single(0)
		for _, row := range []struct{ a, b, lower, upper impl.Span }{
			{n.at(2, 8), n.at(2, 4), n.at(0.5, 4), none}, {n.at(2, 8), n.at(-4, -2), n.at(-4, -0.5), none}, {n.at(-8, -2), n.at(2, 4), n.at(-4, -0.5), none}, {n.at(-8, -2), n.at(-4, -2), n.at(0.5, 4), none}, {n.at(-2, 8), n.at(2, 4), n.at(-1, 4), none}, {n.at(-2, 8), n.at(-4, -2), n.at(-4, 1), none},
			{n.at(1, 2), nought, none, none}, {nought, nought, none, none}, {n.all(), nought, none, none}, {n.at(1, 1), n.at(0, 1), n.from(1), none}, {n.at(1, 1), n.at(-1, 0), n.upTo(-1), none}, {n.at(-1, -1), n.at(0, 1), n.upTo(-1), none}, {n.at(-1, -1), n.at(-1, 0), n.from(1), none},
			{n.at(1, 1), n.at(-1, 1), n.upTo(-1), n.from(1)}, {n.at(-1, -1), n.at(-1, 2), n.upTo(-0.5), n.from(1)}, {n.at(1, 4), n.at(-2, 4), n.upTo(-0.5), n.from(0.25)}, {n.from(1), n.at(-1, 1), n.upTo(-1), n.from(1)}, {n.upTo(-1), n.at(-1, 1), n.upTo(-1), n.from(1)},
			{n.at(0, 1), n.at(-1, 1), n.all(), none}, {n.at(-1, 0), n.at(-1, 1), n.all(), none}, {nought, n.at(-1, 1), nought, none}, {nought, n.all(), nought, none}, {nought, n.at(0, 1), nought, none}, {nought, n.at(-1, 0), nought, none}, {n.at(-1, 1), n.at(0, 1), n.all(), none}, {n.at(0, 1), n.at(0, 1), n.from(0), none}, {n.at(0, 1), n.at(-1, 0), n.upTo(0), none}, {n.at(0, 1), n.at(1, 2), n.at(0, 1), none},
			{n.at(1, 1), n.from(1), n.at(0, 1), none}, {n.at(1, 1), n.upTo(-1), n.at(-1, 0), none}, {n.at(-1, -1), n.from(1), n.at(-1, 0), none}, {n.at(1, 1), n.all(), n.all(), none}, {n.at(1, 1), n.upTo(1), n.upTo(0), n.from(1)}, {n.at(1, 1), n.from(-1), n.upTo(-1), n.from(0)}, {n.at(1, 1), n.from(0), n.from(0), none},
			{n.from(1), n.from(1), n.from(0), none}, {n.all(), n.at(1, 2), n.all(), none}, {n.all(), n.from(1), n.all(), none}, {n.from(2), n.at(1, 2), n.from(1), none}, {n.upTo(-2), n.at(1, 2), n.upTo(-1), none}, {n.from(1), n.all(), n.all(), none}, {n.all(), n.all(), n.all(), none},
			{single(1), n.at(-2, 2), n.all(), none}, {single(1), n.at(-1, 1), spanOf(-n.top, -1), spanOf(1, n.top)}, {single(1), n.at(-1, 2), spanOf(-n.top, -1), n.from(0)},
			{single(n.top - 1), n.at(-0.5, 0.5), spanOf(-n.top, 1-n.top), spanOf(n.top-1, n.top)}, {single(n.top - 1), single(1), spanOf(n.top-1, n.top), none}, {single(1), single(n.top - 1), spanOf(0, 1), none}, {single(1), single(1 - n.top), spanOf(-1, 0), none}, {single(1), single(1), n.at(1, 1), none}, {single(n.one), single(n.one + 1), spanOf(n.one-2, n.one-1), none},
		} {
			lower, upper := impl.SpanDivTwo(width, row.a, row.b)
			checkSpan(t, width, "the lower part of SpanDivTwo", row.a, row.b, lower, row.lower)
			checkSpan(t, width, "the upper part of SpanDivTwo", row.a, row.b, upper, row.upper)
			want := row.lower
			if row.upper.Some {
				want.Hi = row.upper.Hi
			}
			checkSpan(t, width, "SpanDiv", row.a, row.b, impl.SpanDiv(width, row.a, row.b), want)
		}
	}
}
