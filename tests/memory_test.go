package tests

import (
	"slices"
	"testing"

	"loop.example/pinfold/impl"
)

// guarded is a box with spare room behind its end, and a way to see whether that or the box was written to.
func guarded(pairs ...impl.Pair) (impl.Box, func() bool) {
	room := append(slices.Clone(pairs), impl.Pair{Lo: 77, Hi: 78}, impl.Pair{Lo: 79, Hi: 80})
	before := slices.Clone(room)
	return impl.Box{Pairs: room[:len(pairs)]}, func() bool { return slices.Equal(room, before) }
}

// scribble writes all over a list that was answered, its spare room too.
func scribble[T any](list []T, with T) {
	room := list[:cap(list)]
	for at := range room {
		room[at] = with
	}
}

// Every answer is new memory, and nothing is written into an argument or behind its end.
func TestBoxesShareNoMemory(t *testing.T) {
	ink := impl.Pair{Lo: -12345, Hi: 12345}
	for _, width := range bothWidths() {
		for _, pairs := range [][]impl.Pair{{{Lo: 0, Hi: 9}}, {{Lo: 0, Hi: 9}, {Lo: 1, Hi: 7}, {Lo: 2, Hi: 2}, {Lo: -5, Hi: 5}, {Lo: 3, Hi: 4}, {Lo: 0, Hi: 2}}} {
			a, cleanA := guarded(pairs...)
			b, cleanB := guarded(pairs...)
			impl.BoxOk(width, a)
			impl.BoxIs(a, b)
			impl.BoxFine(width, a, 3)
			impl.BoxWidest(width, a)
			impl.BoxHalved(width, a, b)
			impl.BoxUnits(width, a)
			impl.BoxPath(width, a)
			scribble(impl.BoxBits(width, a), 99)
			meet, _ := impl.BoxMeet(width, a, b)
			scribble(meet.Pairs, ink)
			less, _ := impl.BoxLess(a)
			scribble(less.Pairs, ink)
			more, _ := impl.BoxMore(a)
			scribble(more.Pairs, ink)
			checkTwoParts(t, ink, func() (impl.Box, impl.Box, bool) { return impl.BoxSplit(width, a, 0) })
			checkTwoParts(t, ink, func() (impl.Box, impl.Box, bool) { return impl.BoxCut(width, a, 0, impl.Pair{Lo: 3, Hi: 5}) })
			if !cleanA() || !cleanB() {
				t.Errorf("%d: %v is written to", width, pairs)
			}
		}
	}
}

// checkTwoParts sees that what is written into one part is not to be seen in the other.
func checkTwoParts(t *testing.T, ink impl.Pair, parts func() (impl.Box, impl.Box, bool)) {
	t.Helper()
	first, second, ok := parts()
	before := slices.Clone(second.Pairs)
	scribble(first.Pairs, ink)
	if !ok || !slices.Equal(second.Pairs, before) {
		t.Error("two parts share memory", ok)
	}
	scribble(second.Pairs, ink)
}

func TestPatternsShareNoMemory(t *testing.T) {
	room := []uint64{1, 5, 2, 9, 3, 3}
	for _, count := range []int{0, 1, 2, 3, 4} {
		for _, width := range bothWidths() {
			before := slices.Clone(room)
			b, _ := impl.BoxOf(width, room[:count])
			scribble(b.Pairs, impl.Pair{Lo: 41, Hi: 42})
			if !slices.Equal(room, before) {
				t.Errorf("%d: %d patterns are written to", width, count)
			}
		}
	}
}
