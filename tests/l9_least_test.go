package tests

import (
	"math/big"
	"testing"

	"loop.example/pinfold/impl"
)

// Each operation is the least span that has all that it speaks of: what is reached over without rounding, rounded outward.

func checkSpan(t *testing.T, width int, what string, a impl.Span, b impl.Span, got impl.Span, want impl.Span) {
	t.Helper()
	if got != want {
		t.Errorf("%d: %s of %v and %v: %v, not %v", width, what, a, b, got, want)
	}
}

func checkTwoSpans(t *testing.T, width int, a impl.Span, b impl.Span) {
	t.Helper()
	x, y := reachOf(width, a), reachOf(width, b)
	minus := y.negative()
	checkSpan(t, width, "SpanMin", a, b, impl.SpanMin(width, a, b), spanAround(width, lesserReach(x, y)))
	checkSpan(t, width, "SpanMax", a, b, impl.SpanMax(width, a, b), spanAround(width, greaterReach(x, y)))
	checkSpan(t, width, "SpanAdd", a, b, impl.SpanAdd(width, a, b), spanAround(width, sumReach(x, y)))
	checkSpan(t, width, "SpanSub", a, b, impl.SpanSub(width, a, b), spanAround(width, sumReach(x, minus)))
	checkSpan(t, width, "SpanMul", a, b, impl.SpanMul(width, a, b), spanAround(width, productReach(x, y)))
	above, below := quotientReach(x, y), turnedReach(quotientReach(x, minus))
	checkSpan(t, width, "SpanDiv", a, b, impl.SpanDiv(width, a, b), spanAround(width, around(above, below)))
	checkQuotients(t, width, a, b, spanAround(width, above), spanAround(width, below))
}

// checkQuotients sees that both parts are told, the lower one first, just if both are there and have no float in common.
func checkQuotients(t *testing.T, width int, a impl.Span, b impl.Span, above impl.Span, below impl.Span) {
	t.Helper()
	lower, upper := impl.SpanDivTwo(width, a, b)
	var wantLower, wantUpper impl.Span
	switch {
	case !above.Some:
		wantLower = below
	case !below.Some:
		wantLower = above
	case above.Hi < below.Lo:
		wantLower, wantUpper = above, below
	case below.Hi < above.Lo:
		wantLower, wantUpper = below, above
	default:
		wantLower = spanOf(min(above.Lo, below.Lo), max(above.Hi, below.Hi))
	}
	checkSpan(t, width, "the lower part of SpanDivTwo", a, b, lower, wantLower)
	checkSpan(t, width, "the upper part of SpanDivTwo", a, b, upper, wantUpper)
}

func checkOneSpan(t *testing.T, width int, a impl.Span) {
	t.Helper()
	x := reachOf(width, a)
	minus := x.negative()
	checkSpan(t, width, "SpanNeg", a, a, impl.SpanNeg(width, a), spanAround(width, &minus))
	checkSpan(t, width, "SpanAbs", a, a, impl.SpanAbs(width, a), spanAround(width, sizeReach(x)))
	for n := range 9 {
		checkSpan(t, width, "SpanPow", a, single(n), impl.SpanPow(width, a, n), spanAround(width, powerReach(x, n)))
	}
	checkRoots(t, width, a, x)
}

// checkRoots holds the squares of the bounds, and of the floats next to them, against what the roots are of.
func checkRoots(t *testing.T, width int, a impl.Span, x reach) {
	t.Helper()
	got, part := impl.SpanRoot(width, a), x.from()
	if part == nil {
		checkSpan(t, width, "SpanRoot", a, a, got, impl.Span{})
		return
	}
	if !got.Some || got.Lo < 0 || got.Hi < got.Lo || got.Lo >= topOf(width) {
		t.Errorf("%d: SpanRoot of %v: %v", width, a, got)
		return
	}
	square := func(ord int) *big.Rat { return powerRat(ratOf(width, ord), 2) }
	if square(got.Lo).Cmp(part.lo) > 0 || square(got.Lo+1).Cmp(part.lo) <= 0 {
		t.Errorf("%d: SpanRoot of %v begins at %d", width, a, got.Lo)
	}
	if part.hi == nil || got.Hi == topOf(width) {
		if part.hi != nil || got.Hi != topOf(width) {
			t.Errorf("%d: SpanRoot of %v ends at %d", width, a, got.Hi)
		}
		return
	}
	if square(got.Hi).Cmp(part.hi) < 0 || got.Hi > 0 && square(got.Hi-1).Cmp(part.hi) >= 0 {
		t.Errorf("%d: SpanRoot of %v ends at %d", width, a, got.Hi)
	}
}

func TestSpansAreTheLeastAtEdges(t *testing.T) {
	for _, width := range bothWidths() {
		spans := edgeSpans(width)
		for _, a := range spans {
			checkOneSpan(t, width, a)
			for _, b := range spans {
				checkTwoSpans(t, width, a, b)
			}
		}
	}
}

func TestSpansAreTheLeastElsewhere(t *testing.T) {
	for _, width := range bothWidths() {
		spans := someSpans(width, 36)
		for _, a := range spans {
			checkOneSpan(t, width, a)
			for _, b := range spans {
				checkTwoSpans(t, width, a, b)
			}
		}
		for _, a := range someSpans(width, 300) {
			checkOneSpan(t, width, a)
		}
	}
}

// Squares have floats as roots; the numbers next to them have none.
func TestRootsOfSquares(t *testing.T) {
	for _, width := range bothWidths() {
		for n := range 200 {
			root := ordOf(width, float64(n)/8)
			square := ordOf(width, float64(n*n)/64)
			checkSpan(t, width, "SpanRoot", single(square), single(n), impl.SpanRoot(width, single(square)), single(root))
			for _, beside := range []int{square + 1, square - 1} {
				checkOneSpan(t, width, single(beside))
				if got := impl.SpanRoot(width, single(beside)); beside >= 0 && square > 0 && got.Lo == got.Hi {
					t.Errorf("%d: %d beside a square has the root %v", width, beside, got)
				}
			}
		}
	}
}

// oddRoot is an odd number of 53 bits whose square, and more, ends in 53 noughts, found bit by bit; more must leave 7 of 8.
func oddRoot(more uint64) uint64 {
	y := uint64(1)
	for bit := 3; bit < 53; bit++ {
		if (y*y+more)>>bit&1 == 1 {
			y += 1 << (bit - 1)
		}
	}
	return y&(1<<53-1) | 1<<52
}

// Roots that lie next to a float, nearer than many more bits than a float has can tell.
func TestRootsNextToFloats(t *testing.T) {
	for _, more := range []uint64{7, 15, 23, 1<<20 + 7} {
		y := oddRoot(more)
		square := new(big.Int).Mul(new(big.Int).SetUint64(y), new(big.Int).SetUint64(y))
		square.Add(square, new(big.Int).SetUint64(more))
		x, exact := new(big.Rat).SetInt(square).Float64()
		if !exact {
			t.Fatalf("%v is no float", square)
		}
		root := ordOf(64, float64(y))
		checkSpan(t, 64, "SpanRoot", single(ordOf(64, x)), impl.Span{}, impl.SpanRoot(64, single(ordOf(64, x))), spanOf(root, root+1))
	}
	// A little less than the square of 2^52 + 1.
	root := ordOf(64, 1<<52+1)
	below := ordOf(64, 1<<104+1<<53)
	checkSpan(t, 64, "SpanRoot", single(below), impl.Span{}, impl.SpanRoot(64, single(below)), spanOf(root-1, root))
}
