package tests

import (
	"math/big"
	"testing"

	"loop.example/pinfold/impl"
)

// spansWith are spans that have a number: the least one, a little more to either side, to one side all, and all.
func spansWith(width int, r *big.Rat) []impl.Span {
	top := topOf(width)
	p := bracketOf(width, r)
	out := []impl.Span{spanOf(max(p.Lo-3, -top), min(p.Hi+2, top)), spanOf(p.Lo, top), spanOf(-top, p.Hi), spanOf(-top, top)}
	if least := spanOf(p.Lo, p.Hi); realPair(width, p) {
		out = append(out, least)
	}
	var ok []impl.Span
	for _, s := range out {
		if realPair(width, pairOfSpan(s)) {
			ok = append(ok, s)
		}
	}
	return ok
}

// checkStays sees that a number stays in what is left of its span, and that this has nothing that was not in it.
func checkStays(t *testing.T, width int, what string, z impl.Span, y impl.Span, x impl.Span, left impl.Span, r *big.Rat) {
	t.Helper()
	if !spanWithin(left, x) {
		t.Errorf("%d: %s of %v, %v leaves %v of %v", width, what, z, y, left, x)
	}
	if !left.Some || !isWithin(width, pairOfSpan(left), r) {
		t.Errorf("%d: %s of %v, %v leaves %v of %v: %s is lost", width, what, z, y, left, x, aNumber(r))
	}
}

// backRule is an operation of two numbers, and the function that narrows the first one.
type backRule struct {
	name string
	back backTwo
	rule func(r *big.Rat, s *big.Rat) *big.Rat
}

// backRules leave out what divides by 0: there is nothing that is reckoned of it.
func backRules() []backRule {
	product := func(r *big.Rat, s *big.Rat) *big.Rat { return new(big.Rat).Mul(r, s) }
	quotient := func(r *big.Rat, s *big.Rat) *big.Rat {
		if s.Sign() == 0 {
			return nil
		}
		return new(big.Rat).Quo(r, s)
	}
	turned := func(r *big.Rat, s *big.Rat) *big.Rat { return quotient(s, r) }
	return []backRule{
		{"BackMul", impl.BackMul, product}, {"BackTop", impl.BackTop, quotient}, {"BackBottom", impl.BackBottom, turned}, {"BackMin", impl.BackMin, lesserRat}, {"BackMax", impl.BackMax, greaterRat},
	}
}

// Promise 29 of two operands: r, or what divides, stays, wherever what is reckoned lies.
func TestBackwardLosesNothingOfTwo(t *testing.T) {
	t.Parallel()
	for _, width := range bothWidths() {
		spans := append(spansToAsk(width, 12, 5), single(0), spanOf(-ordOf(width, 1), ordOf(width, 3)), spanOf(0, ordOf(width, 1)), spanOf(-1, 1))
		for _, x := range spans {
			for _, y := range spans {
				for at, both := range numbersOfTwo(width, x, y) {
					for _, rule := range backRules() {
						made := rule.rule(both[0], both[1])
						if at%2 == 1 || made == nil {
							continue
						}
						for _, z := range spansWith(width, made) {
							checkStays(t, width, rule.name, z, y, x, rule.back(width, z, y, x), both[0])
						}
					}
				}
			}
		}
	}
}

// Promise 29 of one operand.
func TestBackwardLosesNothingOfOne(t *testing.T) {
	t.Parallel()
	for _, width := range bothWidths() {
		for _, x := range spansToAsk(width, 2, 24) {
			for _, r := range numbersIn(width, x) {
				for n := range impl.SpanMaxPower + 1 {
					for _, z := range spansWith(width, powerRat(r, n)) {
						checkStays(t, width, "BackPow", z, single(n), x, impl.BackPow(width, z, n, x), r)
					}
				}
				for _, z := range spansWith(width, new(big.Rat).Abs(r)) {
					checkStays(t, width, "BackAbs", z, z, x, impl.BackAbs(width, z, x), r)
				}
				// The square has r without its sign as its root.
				square := powerRat(r, 2)
				for _, z := range spansWith(width, new(big.Rat).Abs(r)) {
					for _, of := range spansWith(width, square) {
						checkStays(t, width, "BackRoot", z, z, of, impl.BackRoot(width, z, of), square)
					}
				}
			}
		}
	}
}

// The promise that nothing is left that was not in the span holds where nothing need stay, too.
func TestBackwardAddsNothing(t *testing.T) {
	t.Parallel()
	for _, width := range bothWidths() {
		spans := spansToAsk(width, 6, 8)
		for _, z := range spans {
			for _, x := range spans {
				for n := range impl.SpanMaxPower + 1 {
					checkAddsNothing(t, width, "BackPow", x, impl.BackPow(width, z, n, x))
				}
				checkAddsNothing(t, width, "BackRoot", x, impl.BackRoot(width, z, x))
				checkAddsNothing(t, width, "BackAbs", x, impl.BackAbs(width, z, x))
				for _, y := range spans {
					for _, rule := range backRules() {
						checkAddsNothing(t, width, rule.name, x, rule.back(width, z, y, x))
					}
				}
			}
		}
	}
}

func checkAddsNothing(t *testing.T, width int, what string, x impl.Span, left impl.Span) {
	t.Helper()
	if !spanWithin(left, x) || !impl.SpanOk(width, left) {
		t.Errorf("%d: %s leaves %v of %v", width, what, left, x)
	}
}

// numbersBetween are strictly within a gap: next to its bounds, in its middle, and 0.
func numbersBetween(width int, gap impl.Pair) []*big.Rat {
	lo, hi := ratOf(width, gap.Lo), ratOf(width, gap.Hi)
	row := append(ratsBeside(width, gap.Lo), ratsBeside(width, gap.Hi)...)
	middle := new(big.Rat).Add(lo, hi)
	row = append(row, middle.Mul(middle, smallRat(1, 2)), new(big.Rat))
	var out []*big.Rat
	for _, r := range row {
		if lo.Cmp(r) < 0 && r.Cmp(hi) < 0 {
			out = append(out, r)
		}
	}
	return out
}

// Promise 33: a gap lies within what is left, and no number strictly within it, times one of y, is in z.
func TestGapsHaveNoFactor(t *testing.T) {
	t.Parallel()
	for _, width := range bothWidths() {
		known := spansToAsk(width, 2, 12)
		found := 0
		for _, z := range known {
			for _, y := range known {
				for _, x := range spansToNarrow(width) {
					gap, ok := impl.BackMulGap(width, z, y, x)
					if !ok {
						continue
					}
					found++
					left := impl.BackMul(width, z, y, x)
					if gap.Lo >= gap.Hi || !left.Some || gap.Lo < left.Lo || gap.Hi > left.Hi {
						t.Errorf("%d: BackMulGap of %v, %v, %v: %v, but %v is left", width, z, y, x, gap, left)
					}
					if found%3 == 0 {
						checkNoFactor(t, width, z, y, gap)
					}
				}
			}
		}
		if found < 100 {
			t.Errorf("%d: only %d gaps", width, found)
		}
	}
}

func checkNoFactor(t *testing.T, width int, z impl.Span, y impl.Span, gap impl.Pair) {
	t.Helper()
	for _, r := range numbersBetween(width, gap) {
		for _, s := range numbersIn(width, y) {
			if product := new(big.Rat).Mul(r, s); isWithin(width, pairOfSpan(z), product) {
				t.Errorf("%d: %s lies within the gap %v, but times %s it is in %v", width, aNumber(r), gap, aNumber(s), z)
			}
		}
	}
}

// Promise 34: what is sure holds of all numbers, or of none, and RelMeet keeps both numbers of which a relation holds.
func TestRelationsKeepWhatHolds(t *testing.T) {
	t.Parallel()
	for _, width := range bothWidths() {
		spans := append(spansToAsk(width, 4, 10), single(0), single(1), spanOf(0, 1), spanOf(-1, 0))
		for _, a := range spans {
			for _, b := range spans {
				numbers := numbersOfTwo(width, a, b)
				for _, rel := range relations() {
					checkKept(t, width, rel, a, b, numbers)
				}
			}
		}
	}
}

func checkKept(t *testing.T, width int, rel int, a impl.Span, b impl.Span, numbers [][2]*big.Rat) {
	t.Helper()
	sure := impl.RelSure(width, rel, a, b)
	left, right := impl.RelMeet(width, rel, a, b)
	if !spanWithin(left, a) || !spanWithin(right, b) || left.Some != right.Some {
		t.Errorf("%d: RelMeet %d of %v and %v: %v and %v", width, rel, a, b, left, right)
	}
	for _, both := range numbers {
		is := holds(rel, both[0], both[1])
		if sure == 1 && !is || sure == -1 && is {
			t.Errorf("%d: RelSure %d of %v and %v: %d, but %s and %s", width, rel, a, b, sure, aNumber(both[0]), aNumber(both[1]))
		}
		if is && !(left.Some && isWithin(width, pairOfSpan(left), both[0]) && isWithin(width, pairOfSpan(right), both[1])) {
			t.Errorf("%d: RelMeet %d of %v and %v: %v and %v, but %s and %s", width, rel, a, b, left, right, aNumber(both[0]), aNumber(both[1]))
		}
	}
}
