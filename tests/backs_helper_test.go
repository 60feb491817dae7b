package tests

import (
	"math/big"
	"testing"

	"loop.example/pinfold/impl"
)

// What goes back is held here against bounds that are put together one by one, and against reaches of math/big.

// common is what two spans have, empty ones too.
func common(a impl.Span, b impl.Span) impl.Span {
	lo, hi := max(a.Lo, b.Lo), min(a.Hi, b.Hi)
	if !a.Some || !b.Some || lo > hi {
		return impl.Span{}
	}
	return spanOf(lo, hi)
}

// both is around two spans; an empty one adds nothing.
func both(a impl.Span, b impl.Span) impl.Span {
	switch {
	case !a.Some:
		return b
	case !b.Some:
		return a
	}
	return spanOf(min(a.Lo, b.Lo), max(a.Hi, b.Hi))
}

// mirrored is a span with the other sign.
func mirrored(s impl.Span) impl.Span {
	if !s.Some {
		return s
	}
	return spanOf(-s.Hi, -s.Lo)
}

// fromNought is what a span has from 0 on.
func fromNought(width int, s impl.Span) impl.Span { return common(s, spanOf(0, topOf(width))) }

func hasNought(s impl.Span) bool { return s.Lo <= 0 && 0 <= s.Hi }

// leftOf is what x has of two parts.
func leftOf(x impl.Span, first impl.Span, second impl.Span) impl.Span {
	return both(common(x, first), common(x, second))
}

// quotientParts are the lower and the upper part of all quotients; one part alone is the lower one.
func quotientParts(width int, a impl.Span, b impl.Span) (impl.Span, impl.Span) {
	x, y := reachOf(width, a), reachOf(width, b)
	above := spanAround(width, quotientReach(x, y))
	below := spanAround(width, turnedReach(quotientReach(x, y.negative())))
	switch {
	case !above.Some || !below.Some || common(above, below).Some:
		return both(above, below), impl.Span{}
	case above.Lo < below.Lo:
		return above, below
	}
	return below, above
}

// factorParts are the parts in which a factor of z must lie, y being the other one.
func factorParts(width int, z impl.Span, y impl.Span) (impl.Span, impl.Span) {
	if hasNought(z) && hasNought(y) {
		return spanOf(-topOf(width), topOf(width)), impl.Span{}
	}
	return quotientParts(width, z, y)
}

// lesserPart is where one of two must lie of which the lesser lies in z, y being the other one.
func lesserPart(width int, z impl.Span, y impl.Span) impl.Span {
	switch {
	case y.Hi < z.Lo:
		return impl.Span{}
	case y.Lo > z.Hi:
		return z
	}
	return spanOf(z.Lo, topOf(width))
}

// backCase is what goes back over two spans, and what is to be left of x; a gap from 0 to 0 is none.
type backCase struct {
	z, y, x, want impl.Span
	gap           impl.Pair
}

// backTwo goes back over two spans that are known, and narrows a third.
type backTwo func(width int, z impl.Span, y impl.Span, x impl.Span) impl.Span

func checkBack(t *testing.T, width int, what string, z impl.Span, y impl.Span, x impl.Span, got impl.Span, want impl.Span) {
	t.Helper()
	if got != want {
		t.Errorf("%d: %s of %v, %v, %v: %v, not %v", width, what, z, y, x, got, want)
	}
}

func checkBackCases(t *testing.T, width int, what string, back backTwo, cases []backCase) {
	t.Helper()
	for _, row := range cases {
		checkBack(t, width, what, row.z, row.y, row.x, back(width, row.z, row.y, row.x), row.want)
	}
}

func checkGap(t *testing.T, width int, z impl.Span, y impl.Span, x impl.Span, want impl.Pair) {
	t.Helper()
	gap, ok := impl.BackMulGap(width, z, y, x)
	if gap != want || ok != (want != impl.Pair{}) {
		t.Errorf("%d: BackMulGap of %v, %v, %v: %v %v, not %v", width, z, y, x, gap, ok, want)
	}
}

// spansToNarrow are spans that lie all over others: some of the edges, around 0, at either side of it, and single floats.
func spansToNarrow(width int) []impl.Span {
	top, one := topOf(width), ordOf(width, 1)
	return append(spansToAsk(width, 11, 6), spanOf(-top, top), single(0), spanOf(-1, 1), spanOf(-1, 0), spanOf(0, 1), single(one), single(-one), spanOf(-one, one), spanOf(0, top), spanOf(-top, 0), spanOf(1, one-1), spanOf(1-one, -1))
}

// powerOf is a finite float's power.
func powerOf(width int, ord int, n int) *big.Rat { return powerRat(ratOf(width, ord), n) }

// isRootDown says whether a float is the greatest one whose power is not above a bound, isRootUp whether it is the least one that is not below it; the floats next to it tell.
func isRootDown(width int, root int, n int, bound int) bool {
	if sizeIsTop(width, root) || sizeIsTop(width, bound) {
		return root == bound
	}
	value := ratOf(width, bound)
	return powerOf(width, root, n).Cmp(value) <= 0 && (sizeIsTop(width, root+1) || powerOf(width, root+1, n).Cmp(value) > 0)
}

func isRootUp(width int, root int, n int, bound int) bool {
	if sizeIsTop(width, root) || sizeIsTop(width, bound) {
		return root == bound
	}
	if n%2 == 0 && root == 0 {
		// Below 0 the even powers grow again, but roots of them are from 0 on.
		return bound == 0
	}
	value := ratOf(width, bound)
	return powerOf(width, root, n).Cmp(value) >= 0 && (sizeIsTop(width, root-1) || powerOf(width, root-1, n).Cmp(value) < 0)
}

func sizeIsTop(width int, ord int) bool { return ord == topOf(width) || ord == -topOf(width) }

// rootsLeft are the roots that BackPow tells of z, from 0 on if the power is even, each bound held against its own power.
func rootsLeft(t *testing.T, width int, z impl.Span, n int) impl.Span {
	t.Helper()
	x := spanOf(-topOf(width), topOf(width))
	if n%2 == 0 {
		x.Lo = 0
		z = fromNought(width, z)
	}
	got := impl.BackPow(width, z, n, x)
	if !z.Some {
		checkSpan(t, width, "the roots of what is below 0", z, single(n), got, impl.Span{})
		return impl.Span{}
	}
	if !got.Some || !isRootDown(width, got.Lo, n, z.Lo) || !isRootUp(width, got.Hi, n, z.Hi) {
		t.Errorf("%d: the roots of %v, power %d: %v", width, z, n, got)
	}
	return got
}
