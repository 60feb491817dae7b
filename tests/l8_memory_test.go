package tests

import (
	"slices"
	"testing"

	"loop.example/pinfold/impl"
)

// No function writes into a list that it was handed.
func TestRoundingWritesNothing(t *testing.T) {
	for _, width := range append(bothWidths(), 0, 16) {
		for _, first := range fracsToGuard() {
			f, clean := guardedFrac(first)
			impl.FloatDown(width, f)
			impl.FloatUp(width, f)
			impl.FloatNear(width, f)
			impl.PairFrac(width, f)
			for _, p := range []impl.Pair{{}, {Lo: -5, Hi: 9}, {Lo: 9, Hi: -5}, {Lo: -narrowTop, Hi: narrowTop}} {
				impl.PairHas(width, p, f)
			}
			if !clean() {
				t.Errorf("%d: %v is written to", width, first)
			}
		}
	}
	list, clean := guardedNat([]int{1})
	same := impl.Frac{Below: true, Top: list, Bottom: list}
	for _, width := range bothWidths() {
		lo, _ := impl.FloatDown(width, same)
		hi, _ := impl.FloatUp(width, same)
		if want := -ordOf(width, 1); lo != want || hi != want || !clean() {
			t.Errorf("%d: 1 by 1, one list, is rounded to %d and %d", width, lo, hi)
		}
	}
}

func TestPointsAreNotWrittenTo(t *testing.T) {
	for _, width := range bothWidths() {
		one := ordOf(width, 1)
		for _, count := range []int{0, 1, 2, 3, 6, 7} {
			for _, first := range fracsToGuard() {
				box, cleanBox := guarded(slices.Repeat([]impl.Pair{{Lo: -one, Hi: one}}, count)...)
				f, cleanFrac := guardedFrac(first)
				room := slices.Repeat([]impl.Frac{f}, count+3)
				impl.BoxHas(width, box, room[:count])
				impl.BoxHas(width, box, room[:count+1])
				untouched := !slices.ContainsFunc(room, func(g impl.Frac) bool { return !sameFrac(g, first) })
				if !cleanBox() || !cleanFrac() || !untouched {
					t.Errorf("%d: a point of %d times %v, or its box, is written to", width, count, first)
				}
			}
		}
	}
}

// A value is new memory, and is not kept: what is written into it is not to be seen in the next one.
func TestValuesAreNotKept(t *testing.T) {
	for _, width := range bothWidths() {
		top := topOf(width)
		for _, ord := range []int{0, 1, -1, 1 << fractionOf(width), ordOf(width, 1), -ordOf(width, 1), ordOf(width, 0.75), ordOf(width, 3), top - 1, 1 - top, top} {
			before, isBefore := impl.FloatFrac(width, ord)
			kept := impl.Frac{Below: before.Below, Top: slices.Clone(before.Top), Bottom: slices.Clone(before.Bottom)}
			blot(t, before)
			after, isAfter := impl.FloatFrac(width, ord)
			if isBefore != isAfter || !sameFrac(kept, after) {
				t.Errorf("%d: the value of %d is %v, and then %v", width, ord, kept, after)
			}
			if first, ok := impl.FloatDown(width, kept); isBefore && (!ok || first != ord) {
				t.Errorf("%d: the value of %d comes back as %d", width, ord, first)
			}
		}
	}
}
