package tests

import (
	"math/big"
	"testing"

	"loop.example/pinfold/impl"
)

// numbersIn are fractions in a span: at its bounds, near them, beyond all floats where it has no bound, and between.
func numbersIn(width int, s impl.Span) []*big.Rat {
	row := append(ratsBeside(width, s.Lo), ratsBeside(width, s.Hi)...)
	row = append(row, new(big.Rat), smallRat(1, 1), smallRat(-1, 1), smallRat(1, 3), smallRat(-7, 5), smallRat(1000003, 7))
	r := reachOf(width, s)
	if r.lo != nil && r.hi != nil {
		third := new(big.Rat).Sub(r.hi, r.lo)
		third.Mul(third, smallRat(1, 3))
		row = append(row, third.Add(third, r.lo))
	}
	var out []*big.Rat
	for _, x := range row {
		if isWithin(width, pairOfSpan(s), x) {
			out = append(out, x)
		}
	}
	return out
}

// numbersOfTwo are fractions of two spans, each of the one with some of the other one.
func numbersOfTwo(width int, a impl.Span, b impl.Span) [][2]*big.Rat {
	var out [][2]*big.Rat
	for at, x := range numbersIn(width, a) {
		for place, y := range numbersIn(width, b) {
			if (at+place)%4 == 0 {
				out = append(out, [2]*big.Rat{x, y})
			}
		}
	}
	return out
}

// checkIn sees that a number that was reckoned lies in a span, if it has few enough digits to be asked for.
func checkIn(t *testing.T, width int, what string, s impl.Span, r *big.Rat) {
	t.Helper()
	if fitsRat(r) && !impl.SpanHas(width, s, fracOf(r)) {
		t.Errorf("%d: %s falls out of %v: %s", width, what, s, aNumber(r))
	}
}

// ratRule is what an operation makes of two numbers.
type ratRule struct {
	twoSpans
	rule func(x *big.Rat, y *big.Rat) *big.Rat
}

func rulesOfTwo() []ratRule {
	sum := func(x *big.Rat, y *big.Rat) *big.Rat { return new(big.Rat).Add(x, y) }
	difference := func(x *big.Rat, y *big.Rat) *big.Rat { return new(big.Rat).Sub(x, y) }
	product := func(x *big.Rat, y *big.Rat) *big.Rat { return new(big.Rat).Mul(x, y) }
	return []ratRule{
		{twoSpans{"SpanAdd", impl.SpanAdd}, sum}, {twoSpans{"SpanSub", impl.SpanSub}, difference}, {twoSpans{"SpanMul", impl.SpanMul}, product},
		{twoSpans{"SpanMin", impl.SpanMin}, lesserRat}, {twoSpans{"SpanMax", impl.SpanMax}, greaterRat},
	}
}

// spansToAsk are some of the spans at edges, and some elsewhere.
func spansToAsk(width int, every int, elsewhere int) []impl.Span {
	var out []impl.Span
	for at, s := range edgeSpans(width) {
		if at%every == 0 {
			out = append(out, s)
		}
	}
	return append(out, someSpans(width, elsewhere)...)
}

// Promise 27 of two spans: what is reckoned of a fraction in each lies in what is reckoned of them.
func TestNothingFallsOutOfTwoSpans(t *testing.T) {
	for _, width := range bothWidths() {
		spans := spansToAsk(width, 7, 5)
		for _, a := range spans {
			for _, b := range spans {
				for _, rule := range rulesOfTwo() {
					s := rule.reckon(width, a, b)
					for _, both := range numbersOfTwo(width, a, b) {
						checkIn(t, width, rule.name, s, rule.rule(both[0], both[1]))
					}
				}
			}
		}
	}
}

// Promise 27 of quotients, and promise 32: both parts stand apart, the lower one first, and each quotient is in one of them.
func TestNothingFallsOutOfQuotients(t *testing.T) {
	for _, width := range bothWidths() {
		spans := spansToAsk(width, 5, 8)
		for _, a := range spans {
			for _, b := range spans {
				lower, upper := impl.SpanDivTwo(width, a, b)
				if upper.Some && (!lower.Some || lower.Hi >= upper.Lo) {
					t.Errorf("%d: %v by %v: %v and %v do not stand apart", width, a, b, lower, upper)
				}
				all := impl.SpanDiv(width, a, b)
				for _, both := range numbersOfTwo(width, a, b) {
					if both[1].Sign() == 0 {
						continue
					}
					quotient := new(big.Rat).Quo(both[0], both[1])
					checkIn(t, width, "SpanDiv", all, quotient)
					if fitsRat(quotient) && !impl.SpanHas(width, lower, fracOf(quotient)) && !impl.SpanHas(width, upper, fracOf(quotient)) {
						t.Errorf("%d: %v by %v: %s lies between %v and %v", width, a, b, aNumber(quotient), lower, upper)
					}
				}
			}
		}
	}
}

// Promise 27 of one span.
func TestNothingFallsOutOfOneSpan(t *testing.T) {
	for _, width := range bothWidths() {
		for _, a := range spansToAsk(width, 1, 60) {
			for _, x := range numbersIn(width, a) {
				checkIn(t, width, "SpanNeg", impl.SpanNeg(width, a), negRat(x))
				checkIn(t, width, "SpanAbs", impl.SpanAbs(width, a), new(big.Rat).Abs(x))
				for n := range 9 {
					checkIn(t, width, "SpanPow", impl.SpanPow(width, a, n), powerRat(x, n))
				}
				// The roots of squares are fractions: x itself, if its square lies in the span.
				if square := powerRat(x, 2); isWithin(width, pairOfSpan(a), square) {
					checkIn(t, width, "SpanRoot", impl.SpanRoot(width, a), new(big.Rat).Abs(x))
				}
				checkIn(t, width, "SpanRoot of SpanPow", impl.SpanRoot(width, impl.SpanPow(width, a, 2)), new(big.Rat).Abs(x))
			}
		}
	}
}

// Promise 28: with finite bounds sums, differences and products are rounded from the least and the greatest of what is reckoned of the bounds.
func TestNoWiderThanMustBe(t *testing.T) {
	for _, width := range bothWidths() {
		var spans []impl.Span
		for _, s := range append(edgeSpans(width), someSpans(width, 40)...) {
			if s.Lo > -topOf(width) && s.Hi < topOf(width) {
				spans = append(spans, s)
			}
		}
		for _, a := range spans {
			for _, b := range spans {
				for _, rule := range rulesOfTwo()[:3] {
					got := rule.reckon(width, a, b)
					least, greatest := extremes(width, a, b, rule.rule)
					lo, isLo := impl.FloatDown(width, fracOf(least))
					hi, isHi := impl.FloatUp(width, fracOf(greatest))
					if !isLo || !isHi || got != spanOf(lo, hi) {
						t.Fatalf("%d: %s of %v and %v: %v, not from %d to %d", width, rule.name, a, b, got, lo, hi)
					}
				}
			}
		}
	}
}

// extremes are the least and the greatest of what a rule makes of the bounds of two spans.
func extremes(width int, a impl.Span, b impl.Span, rule func(*big.Rat, *big.Rat) *big.Rat) (*big.Rat, *big.Rat) {
	var least, greatest *big.Rat
	for _, x := range []int{a.Lo, a.Hi} {
		for _, y := range []int{b.Lo, b.Hi} {
			made := rule(ratOf(width, x), ratOf(width, y))
			if least == nil || made.Cmp(least) < 0 {
				least = made
			}
			if greatest == nil || made.Cmp(greatest) > 0 {
				greatest = made
			}
		}
	}
	return least, greatest
}

// insideOf are spans within one: itself, its bounds, its halves, and some with bounds moved in.
func insideOf(width int, s *spread, a impl.Span) []impl.Span {
	middle := impl.BitMiddle(a.Lo, a.Hi)
	box := impl.Box{Pairs: []impl.Pair{pairOfSpan(a)}}
	out := []impl.Span{a, single(a.Lo), single(a.Hi), spanOf(a.Lo, middle), spanOf(middle, a.Hi), single(middle)}
	for range 3 {
		p := within(width, s, box).Pairs[0]
		out = append(out, spanOf(p.Lo, p.Hi))
	}
	var ok []impl.Span
	for _, b := range out {
		if realPair(width, pairOfSpan(b)) {
			ok = append(ok, b)
		}
	}
	return ok
}

// inParts says whether a span lies within one of two.
func inParts(s impl.Span, lower impl.Span, upper impl.Span) bool {
	return spanWithin(s, lower) || spanWithin(s, upper)
}

// Promise 35: what is reckoned of spans within others lies within what is reckoned of these.
func TestMoreMakesMore(t *testing.T) {
	for _, width := range bothWidths() {
		s := spread{uint64(width) + 41}
		spans := spansToAsk(width, 4, 12)
		for _, a := range spans {
			for _, part := range insideOf(width, &s, a) {
				for _, f := range reckonedOne() {
					if got, all := f.reckon(width, part), f.reckon(width, a); !spanWithin(got, all) {
						t.Errorf("%d: %s of %v is %v, but of %v %v", width, f.name, part, got, a, all)
					}
				}
			}
			for _, b := range spans {
				checkMoreOfTwo(t, width, &s, a, b)
			}
		}
	}
}

func checkMoreOfTwo(t *testing.T, width int, s *spread, a impl.Span, b impl.Span) {
	t.Helper()
	lower, upper := impl.SpanDivTwo(width, a, b)
	for at, x := range insideOf(width, s, a) {
		for place, y := range insideOf(width, s, b) {
			if (at+place)%3 != 0 {
				continue
			}
			for _, f := range allOfTwo()[:8] {
				if got, all := f.reckon(width, x, y), f.reckon(width, a, b); !spanWithin(got, all) {
					t.Errorf("%d: %s of %v and %v is %v, but of %v and %v %v", width, f.name, x, y, got, a, b, all)
				}
			}
			first, second := impl.SpanDivTwo(width, x, y)
			if !inParts(first, lower, upper) || !inParts(second, lower, upper) {
				t.Errorf("%d: %v by %v: %v and %v, but %v by %v: %v and %v", width, x, y, first, second, a, b, lower, upper)
			}
		}
	}
}

// lessSpan is the narrow span around a wide one.
func lessSpan(s impl.Span) impl.Span {
	p, _ := impl.PairLess(pairOfSpan(s))
	return spanOf(p.Lo, p.Hi)
}

// moreSpan is a narrow span among the wide ones.
func moreSpan(s impl.Span) impl.Span {
	if !s.Some {
		return s
	}
	p, _ := impl.PairMore(pairOfSpan(s))
	return spanOf(p.Lo, p.Hi)
}

// wideSpans are wide ones whose bounds are narrow floats, lie beside these, and lie beyond all narrow floats or between the least of them.
func wideSpans() []impl.Span {
	out := spansToAsk(64, 6, 14)
	for _, s := range spansToAsk(32, 6, 12) {
		wide := moreSpan(s)
		out = append(out, wide, spanOf(max(wide.Lo-1, -wideTop), min(wide.Hi+1, wideTop)))
		if wide.Lo+1 < wide.Hi-1 && wide.Lo > -wideTop {
			out = append(out, spanOf(wide.Lo+1, wide.Hi-1))
		}
	}
	return out
}

// Promise 36: what is reckoned of wide spans lies within what is reckoned of the narrow ones around them, widened.
func TestBothWidthsAgreeOnSpans(t *testing.T) {
	spans := wideSpans()
	for _, a := range spans {
		for _, f := range reckonedOne() {
			wide, narrow := f.reckon(64, a), f.reckon(32, lessSpan(a))
			if !spanWithin(wide, moreSpan(narrow)) {
				t.Errorf("%s of the wide %v is %v, of the narrow one around it %v", f.name, a, wide, narrow)
			}
		}
		for _, b := range spans {
			for _, f := range allOfTwo()[:8] {
				wide, narrow := f.reckon(64, a, b), f.reckon(32, lessSpan(a), lessSpan(b))
				if !spanWithin(wide, moreSpan(narrow)) {
					t.Errorf("%s of the wide %v and %v is %v, of the narrow ones around them %v", f.name, a, b, wide, narrow)
				}
			}
			first, second := impl.SpanDivTwo(64, a, b)
			lower, upper := impl.SpanDivTwo(32, lessSpan(a), lessSpan(b))
			if !inParts(first, moreSpan(lower), moreSpan(upper)) || !inParts(second, moreSpan(lower), moreSpan(upper)) {
				t.Errorf("the wide %v by %v is %v and %v, the narrow ones around them %v and %v", a, b, first, second, lower, upper)
			}
		}
	}
}
