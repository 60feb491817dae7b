package tests

import (
	"math"
	"math/big"
	"testing"

	"loop.example/pinfold/impl"
)

func relations() []int { return []int{impl.RelLess, impl.RelMore, impl.RelEqual} }

func noRelations() []int {
	return []int{math.MinInt, -3, -2, -1, 0, 4, 5, 6, 1 << 32, 1<<32 + 1, math.MaxInt}
}

// relCase is a relation of two spans: how sure it is, and what is left of both.
type relCase struct {
	rel         int
	a, b        impl.Span
	sure        int
	left, right impl.Span
}

func checkRelation(t *testing.T, width int, row relCase) {
	t.Helper()
	if got := impl.RelSure(width, row.rel, row.a, row.b); got != row.sure {
		t.Errorf("%d: RelSure %d of %v and %v: %d, not %d", width, row.rel, row.a, row.b, got, row.sure)
	}
	left, right := impl.RelMeet(width, row.rel, row.a, row.b)
	if left != row.left || right != row.right {
		t.Errorf("%d: RelMeet %d of %v and %v: %v and %v, not %v and %v", width, row.rel, row.a, row.b, left, right, row.left, row.right)
	}
}

// relCases are the edges that the document names, as RelLess and as RelEqual.
func relCases(width int) []relCase {
	n := numbersOf(width)
	none, nought := impl.Span{}, single(0)
	const less, equal = impl.RelLess, impl.RelEqual
	return []relCase{
		// Spans that lie apart.
		{less, n.at(1, 2), n.at(3, 4), 1, n.at(1, 2), n.at(3, 4)}, {less, n.at(3, 4), n.at(1, 2), -1, none, none}, {less, nought, single(1), 1, nought, single(1)}, {less, single(1), nought, -1, none, none}, {less, n.upTo(-1), n.from(1), 1, n.upTo(-1), n.from(1)}, {less, n.from(1), n.upTo(-1), -1, none, none},
		{equal, n.at(1, 2), n.at(3, 4), -1, none, none}, {equal, n.at(3, 4), n.at(1, 2), -1, none, none}, {equal, nought, single(1), -1, none, none}, {equal, n.upTo(-1), n.from(1), -1, none, none},
		// One float in common.
		{less, n.at(1, 2), n.at(2, 3), 1, n.at(1, 2), n.at(2, 3)}, {less, n.at(2, 3), n.at(1, 2), 0, n.at(2, 2), n.at(2, 2)}, {less, n.upTo(0), n.from(0), 1, n.upTo(0), n.from(0)}, {less, n.from(0), n.upTo(0), 0, nought, nought}, {less, n.at(2, 2), n.at(2, 3), 1, n.at(2, 2), n.at(2, 3)}, {less, n.at(2, 3), n.at(2, 2), 0, n.at(2, 2), n.at(2, 2)},
		{equal, n.at(1, 2), n.at(2, 3), 0, n.at(2, 2), n.at(2, 2)}, {equal, n.at(2, 3), n.at(1, 2), 0, n.at(2, 2), n.at(2, 2)}, {equal, n.at(2, 2), n.at(2, 3), 0, n.at(2, 2), n.at(2, 2)}, {equal, n.at(1, 2), n.at(2, 2), 0, n.at(2, 2), n.at(2, 2)},
		// The same single float.
		{less, n.at(2, 2), n.at(2, 2), 1, n.at(2, 2), n.at(2, 2)}, {less, nought, nought, 1, nought, nought}, {equal, n.at(2, 2), n.at(2, 2), 1, n.at(2, 2), n.at(2, 2)}, {equal, nought, nought, 1, nought, nought}, {equal, single(n.top - 1), single(n.top - 1), 1, single(n.top - 1), single(n.top - 1)}, {equal, single(n.top - 1), single(1 - n.top), -1, none, none},
		// One within the other, the same, and with other floats in common.
		{less, n.at(2, 3), n.at(1, 4), 0, n.at(2, 3), n.at(2, 4)}, {less, n.at(1, 4), n.at(2, 3), 0, n.at(1, 3), n.at(2, 3)}, {less, n.at(1, 3), n.at(2, 4), 0, n.at(1, 3), n.at(2, 4)}, {less, n.at(2, 4), n.at(1, 3), 0, n.at(2, 3), n.at(2, 3)}, {less, n.at(0, 9), n.at(-5, 5), 0, n.at(0, 5), n.at(0, 5)}, {less, n.at(1, 2), n.at(1, 2), 0, n.at(1, 2), n.at(1, 2)}, {less, n.all(), n.at(1, 2), 0, n.upTo(2), n.at(1, 2)}, {less, n.at(1, 2), n.all(), 0, n.at(1, 2), n.from(1)}, {less, n.all(), n.all(), 0, n.all(), n.all()}, {less, n.from(1), n.from(2), 0, n.from(1), n.from(2)}, {less, n.upTo(1), n.upTo(2), 0, n.upTo(1), n.upTo(2)},
		{equal, n.at(2, 3), n.at(1, 4), 0, n.at(2, 3), n.at(2, 3)}, {equal, n.at(1, 4), n.at(2, 3), 0, n.at(2, 3), n.at(2, 3)}, {equal, n.at(1, 2), n.at(1, 2), 0, n.at(1, 2), n.at(1, 2)}, {equal, n.all(), n.all(), 0, n.all(), n.all()}, {equal, n.from(1), n.upTo(3), 0, n.at(1, 3), n.at(1, 3)}, {equal, n.at(2, 2), n.at(1, 3), 0, n.at(2, 2), n.at(2, 2)},
	}
}

func TestRelationsAtEdges(t *testing.T) {
	for _, width := range bothWidths() {
		for _, row := range relCases(width) {
			checkRelation(t, width, row)
			// Changed round RelLess is RelMore, and RelEqual is itself.
			turned := relCase{row.rel, row.b, row.a, row.sure, row.right, row.left}
			if row.rel == impl.RelLess {
				turned.rel = impl.RelMore
			}
			checkRelation(t, width, turned)
		}
	}
}

// relationOf is what the bounds of two spans, neither empty, tell of a relation.
func relationOf(width int, rel int, a impl.Span, b impl.Span) relCase {
	row := relCase{rel: rel, a: a, b: b}
	var always, never bool
	switch rel {
	case impl.RelLess:
		always, never = a.Hi <= b.Lo, a.Lo > b.Hi
		row.left, row.right = common(a, spanOf(-topOf(width), b.Hi)), common(b, spanOf(a.Lo, topOf(width)))
	case impl.RelMore:
		always, never = a.Lo >= b.Hi, a.Hi < b.Lo
		row.left, row.right = common(a, spanOf(b.Lo, topOf(width))), common(b, spanOf(-topOf(width), a.Hi))
	case impl.RelEqual:
		always, never = a == b && a.Lo == a.Hi, !common(a, b).Some
		row.left, row.right = common(a, b), common(a, b)
	}
	if !row.left.Some || !row.right.Some {
		row.left, row.right = impl.Span{}, impl.Span{}
	}
	switch {
	case always:
		row.sure = 1
	case never:
		row.sure = -1
	}
	return row
}

func TestRelationsByBounds(t *testing.T) {
	for _, width := range bothWidths() {
		spans := append(edgeSpans(width), someSpans(width, 36)...)
		for _, a := range spans {
			for _, b := range spans {
				for _, rel := range relations() {
					checkRelation(t, width, relationOf(width, rel, a, b))
				}
			}
		}
	}
}

func TestRelationsOfEmptySpans(t *testing.T) {
	for _, width := range bothWidths() {
		for _, other := range emptyAnd(edgeSpans(width)) {
			for _, rel := range relations() {
				checkRelation(t, width, relCase{rel: rel, a: other, sure: -1})
				checkRelation(t, width, relCase{rel: rel, b: other, sure: -1})
			}
			// What is no relation is seen ahead of an empty span, and so is a span that is not ok.
			for _, rel := range noRelations() {
				checkRelation(t, width, relCase{rel: rel, a: other})
				checkRelation(t, width, relCase{rel: rel, b: other})
			}
		}
	}
}

func TestWrongRelations(t *testing.T) {
	for _, width := range bothWidths() {
		n := numbersOf(width)
		good := []impl.Span{{}, single(0), n.at(1, 2), n.at(-5, 7), n.from(1), n.all()}
		for _, a := range good {
			for _, b := range good {
				for _, rel := range noRelations() {
					checkRelation(t, width, relCase{rel: rel, a: a, b: b})
				}
			}
			for _, wrong := range wrongSpans(width) {
				for _, rel := range append(relations(), noRelations()...) {
					checkRelation(t, width, relCase{rel: rel, a: a, b: wrong})
					checkRelation(t, width, relCase{rel: rel, a: wrong, b: a})
					checkRelation(t, width, relCase{rel: rel, a: wrong, b: wrong})
				}
			}
		}
	}
	spans := []impl.Span{{}, {Some: true}, single(5), spanOf(-5, 7), spanOf(8, 9), spanOf(-narrowTop, narrowTop), spanOf(-wideTop, wideTop)}
	for _, width := range wrongWidths() {
		for _, a := range spans {
			for _, b := range spans {
				for _, rel := range append(relations(), noRelations()...) {
					checkRelation(t, width, relCase{rel: rel, a: a, b: b})
				}
			}
		}
	}
}

// holds is whether a relation holds of two numbers.
func holds(rel int, a *big.Rat, b *big.Rat) bool {
	order := a.Cmp(b)
	return rel == impl.RelLess && order <= 0 || rel == impl.RelMore && order >= 0 || rel == impl.RelEqual && order == 0
}

func TestRelationsOfFractions(t *testing.T) {
	t.Parallel()
	row := rats()
	for _, a := range row {
		for _, b := range row {
			x, y := fracOf(a), fracOf(b)
			for _, rel := range append(relations(), noRelations()...) {
				if got := impl.RelHolds(rel, x, y); got != holds(rel, a, b) {
					t.Errorf("RelHolds %d of %s and %s: %v", rel, aNumber(a), aNumber(b), got)
				}
			}
		}
	}
}

func TestRelationsOfWrongFractions(t *testing.T) {
	good := []impl.Frac{impl.FracInt(0), impl.FracInt(1), impl.FracInt(-1), fracOf(smallRat(2, 3)), fracOf(wholeRat(mostNat()))}
	for _, wrong := range wrongFracs() {
		for _, other := range append(good, wrong, impl.Frac{}) {
			for _, rel := range append(relations(), noRelations()...) {
				if impl.RelHolds(rel, wrong, other) || impl.RelHolds(rel, other, wrong) {
					t.Fatalf("RelHolds %d of %v and %v", rel, wrong, other)
				}
			}
		}
	}
}

func TestRelationsWriteNothing(t *testing.T) {
	for _, first := range fracsToGuard() {
		for _, second := range fracsToGuard() {
			a, cleanA := guardedFrac(first)
			b, cleanB := guardedFrac(second)
			for _, rel := range append(relations(), 0, 4) {
				impl.RelHolds(rel, a, b)
				impl.RelHolds(rel, a, a)
			}
			if !cleanA() || !cleanB() {
				t.Errorf("%v or %v is written to", first, second)
			}
		}
	}
}
