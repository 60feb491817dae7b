package tests

import (
	"math"
	"math/big"
	"slices"
	"testing"

	"loop.example/pinfold/impl"
)

func TestSpanOk(t *testing.T) {
	for _, width := range bothWidths() {
		for _, s := range emptyAnd(append(edgeSpans(width), someSpans(width, 100)...)) {
			if !impl.SpanOk(width, s) {
				t.Errorf("%d: %v is not ok", width, s)
			}
		}
		for _, s := range wrongSpans(width) {
			if impl.SpanOk(width, s) {
				t.Errorf("%d: %v is ok", width, s)
			}
		}
	}
	for _, width := range wrongWidths() {
		for _, s := range []impl.Span{{}, {Some: true}, spanOf(-1, 1), spanOf(-narrowTop, narrowTop), spanOf(-wideTop, wideTop), spanOf(math.MinInt, math.MaxInt)} {
			if impl.SpanOk(width, s) {
				t.Errorf("width %d: %v is ok", width, s)
			}
		}
	}
	// What is ok among the wide spans is none of the narrow ones, if a bound lies beyond.
	if impl.SpanOk(32, spanOf(0, narrowTop+1)) || !impl.SpanOk(64, spanOf(0, narrowTop+1)) {
		t.Error("a bound beyond the narrow ones")
	}
}

func TestSpanAll(t *testing.T) {
	for _, width := range bothWidths() {
		if got := impl.SpanAll(width); got != spanOf(-topOf(width), topOf(width)) || !impl.SpanOk(width, got) {
			t.Errorf("%d: all is %v", width, got)
		}
		for _, r := range []*big.Rat{new(big.Rat), wholeRat(mostNat()), negRat(wholeRat(mostNat())), rat(big.NewInt(1), mostNat())} {
			if !impl.SpanHas(width, impl.SpanAll(width), fracOf(r)) {
				t.Errorf("%d: all has not %s", width, aNumber(r))
			}
		}
	}
	for _, width := range wrongWidths() {
		if got := impl.SpanAll(width); got != (impl.Span{}) {
			t.Errorf("width %d: all is %v", width, got)
		}
	}
}

func TestSpanHas(t *testing.T) {
	for _, width := range bothWidths() {
		for _, s := range append(edgeSpans(width), someSpans(width, 60)...) {
			for _, r := range append(ratsBeside(width, s.Lo), append(ratsBeside(width, s.Hi), new(big.Rat), smallRat(1, 3))...) {
				if want := isWithin(width, pairOfSpan(s), r); impl.SpanHas(width, s, fracOf(r)) != want {
					t.Errorf("%d: SpanHas of %v and %s is not %v", width, s, aNumber(r), want)
				}
			}
			for _, f := range wrongFracs() {
				if impl.SpanHas(width, s, f) {
					t.Fatalf("%d: %v has %v", width, s, f)
				}
			}
		}
		for _, s := range append(wrongSpans(width), impl.Span{}) {
			for _, f := range []impl.Frac{impl.FracInt(0), impl.FracInt(1), impl.FracInt(-1), fracOf(wholeRat(mostNat())), {}} {
				if impl.SpanHas(width, s, f) {
					t.Errorf("%d: %v has %v", width, s, f)
				}
			}
		}
	}
	for _, width := range wrongWidths() {
		for _, s := range []impl.Span{{}, {Some: true}, spanOf(-1, 1), spanOf(-narrowTop, narrowTop)} {
			if impl.SpanHas(width, s, impl.FracInt(0)) {
				t.Errorf("width %d: %v has 0", width, s)
			}
		}
	}
}

func TestSpansMeet(t *testing.T) {
	for _, width := range bothWidths() {
		spans := emptyAnd(append(edgeSpans(width), someSpans(width, 40)...))
		for _, a := range spans {
			for _, b := range spans {
				// Held against the bounds one by one: what both have is no number, if a bound of the one is beyond the other one.
				want := impl.Span{}
				if lo, hi := max(a.Lo, b.Lo), min(a.Hi, b.Hi); a.Some && b.Some && lo <= hi {
					want = spanOf(lo, hi)
				}
				checkSpan(t, width, "SpanMeet", a, b, impl.SpanMeet(width, a, b), want)
			}
		}
		for _, row := range []struct{ a, b, want impl.Span }{
			{spanOf(-5, 7), spanOf(7, 9), single(7)}, {spanOf(7, 9), spanOf(-5, 7), single(7)}, {spanOf(-5, 7), spanOf(8, 9), impl.Span{}}, {spanOf(8, 9), spanOf(-5, 7), impl.Span{}},
			{single(0), spanOf(0, topOf(width)), single(0)}, {spanOf(-topOf(width), 0), spanOf(0, topOf(width)), single(0)}, {spanOf(-9, 9), spanOf(-3, 4), spanOf(-3, 4)}, {impl.SpanAll(width), spanOf(-3, 4), spanOf(-3, 4)},
			{impl.Span{}, spanOf(-3, 4), impl.Span{}}, {spanOf(-3, 4), impl.Span{}, impl.Span{}}, {impl.Span{}, impl.Span{}, impl.Span{}},
		} {
			checkSpan(t, width, "SpanMeet", row.a, row.b, impl.SpanMeet(width, row.a, row.b), row.want)
		}
	}
}

func TestSpansHull(t *testing.T) {
	for _, width := range bothWidths() {
		spans := emptyAnd(append(edgeSpans(width), someSpans(width, 40)...))
		for _, a := range spans {
			for _, b := range spans {
				want := spanOf(min(a.Lo, b.Lo), max(a.Hi, b.Hi))
				switch {
				case !a.Some:
					want = b
				case !b.Some:
					want = a
				}
				checkSpan(t, width, "SpanHull", a, b, impl.SpanHull(width, a, b), want)
			}
		}
		// An empty one does not bring its bounds 0 with it.
		checkSpan(t, width, "SpanHull", spanOf(5, 9), impl.Span{}, impl.SpanHull(width, spanOf(5, 9), impl.Span{}), spanOf(5, 9))
		checkSpan(t, width, "SpanHull", impl.Span{}, spanOf(-9, -5), impl.SpanHull(width, impl.Span{}, spanOf(-9, -5)), spanOf(-9, -5))
		checkSpan(t, width, "SpanHull", impl.Span{}, impl.Span{}, impl.SpanHull(width, impl.Span{}, impl.Span{}), impl.Span{})
	}
}

// allOfTwo are all functions of two spans, both parts of a quotient one by one.
func allOfTwo() []twoSpans {
	return append(reckonedTwo(), twoSpans{"SpanMeet", impl.SpanMeet}, twoSpans{"SpanHull", impl.SpanHull},
		twoSpans{"the lower part of SpanDivTwo", func(width int, a impl.Span, b impl.Span) impl.Span {
			lower, _ := impl.SpanDivTwo(width, a, b)
			return lower
		}},
		twoSpans{"the upper part of SpanDivTwo", func(width int, a impl.Span, b impl.Span) impl.Span {
			_, upper := impl.SpanDivTwo(width, a, b)
			return upper
		}})
}

func checkNoSpan(t *testing.T, width int, what string, a impl.Span, b impl.Span, got impl.Span) {
	t.Helper()
	checkSpan(t, width, what, a, b, got, impl.Span{})
}

func TestOperationsOfWrongSpans(t *testing.T) {
	for _, width := range bothWidths() {
		good := []impl.Span{{}, single(0), spanOf(-5, 7), single(ordOf(width, 1)), spanOf(1, topOf(width)), impl.SpanAll(width)}
		for _, wrong := range wrongSpans(width) {
			for _, f := range allOfTwo() {
				for _, other := range append(slices.Clone(good), wrong) {
					checkNoSpan(t, width, f.name, wrong, other, f.reckon(width, wrong, other))
					checkNoSpan(t, width, f.name, other, wrong, f.reckon(width, other, wrong))
				}
			}
			for _, f := range reckonedOne() {
				checkNoSpan(t, width, f.name, wrong, wrong, f.reckon(width, wrong))
			}
		}
	}
}

func TestOperationsOfWrongWidths(t *testing.T) {
	spans := []impl.Span{{}, single(0), {Some: true}, spanOf(-5, 7), spanOf(1, 2), spanOf(-narrowTop, narrowTop), spanOf(-wideTop, wideTop)}
	for _, width := range wrongWidths() {
		for _, a := range spans {
			for _, f := range reckonedOne() {
				checkNoSpan(t, width, f.name, a, a, f.reckon(width, a))
			}
			for _, b := range spans {
				for _, f := range allOfTwo() {
					checkNoSpan(t, width, f.name, a, b, f.reckon(width, a, b))
				}
			}
		}
	}
}

func TestOperationsOfEmptySpans(t *testing.T) {
	for _, width := range bothWidths() {
		for _, f := range reckonedOne() {
			checkNoSpan(t, width, f.name, impl.Span{}, impl.Span{}, f.reckon(width, impl.Span{}))
		}
		for _, other := range emptyAnd(edgeSpans(width)) {
			for _, f := range allOfTwo() {
				// The hull of an empty one and another one is that one.
				if f.name == "SpanHull" {
					continue
				}
				checkNoSpan(t, width, f.name, impl.Span{}, other, f.reckon(width, impl.Span{}, other))
				checkNoSpan(t, width, f.name, other, impl.Span{}, f.reckon(width, other, impl.Span{}))
			}
		}
	}
}

func TestWrongPowersOfSpans(t *testing.T) {
	for _, width := range bothWidths() {
		for _, a := range emptyAnd(edgeSpans(width)) {
			for _, n := range []int{math.MinInt, math.MinInt + 1, -8, -2, -1, 9, 10, 16, 64, math.MaxInt - 1, math.MaxInt} {
				checkNoSpan(t, width, "SpanPow", a, single(n), impl.SpanPow(width, a, n))
			}
		}
	}
}

// SpanHas does not write into the fraction that it is handed.
func TestSpansWriteNothing(t *testing.T) {
	for _, width := range append(bothWidths(), 0, 16) {
		for _, first := range fracsToGuard() {
			f, clean := guardedFrac(first)
			for _, s := range []impl.Span{{}, {Lo: 1}, single(0), spanOf(-5, 9), spanOf(9, -5), spanOf(-narrowTop, narrowTop)} {
				impl.SpanHas(width, s, f)
			}
			if !clean() {
				t.Errorf("%d: %v is written to", width, first)
			}
		}
	}
}
