package tests

import (
	"math"
	"slices"
	"testing"

	"loop.example/pinfold/impl"
)

// checkParts holds promise 9 against two parts of a box.
func checkParts(t *testing.T, width int, b impl.Box, first impl.Box, second impl.Box) {
	t.Helper()
	whole := impl.BoxUnits(width, b)
	if whole < impl.BoxMaxUnits && impl.BoxUnits(width, first)+impl.BoxUnits(width, second)+1 > whole {
		t.Fatalf("%d: %v has %d units, no more than its parts %v and %v", width, b, whole, first, second)
	}
	path := impl.BoxPath(width, b)
	if impl.BoxPath(width, first)+1 > path || impl.BoxPath(width, second) > path {
		t.Fatalf("%d: %v has the path %d, too short for %v and %v", width, b, path, first, second)
	}
}

// Promise 9, and that the parts are the box with the parts of the pair in its place.
func TestSplitBoxes(t *testing.T) {
	for _, width := range bothWidths() {
		for _, b := range boxes(width) {
			for at, p := range b.Pairs {
				low, high, want := impl.PairSplit(width, p)
				first, second, ok := impl.BoxSplit(width, b, at)
				if ok != want {
					t.Fatalf("%d: %v is split at %d: %v", width, b, at, ok)
				}
				if !ok {
					checkNoParts(t, first, second, ok)
					continue
				}
				if !sameBox(first, withPair(b, at, low)) || !sameBox(second, withPair(b, at, high)) {
					t.Fatalf("%d: %v is split at %d into %v and %v", width, b, at, first, second)
				}
				checkParts(t, width, b, first, second)
			}
		}
	}
}

func TestCutBoxes(t *testing.T) {
	for _, width := range bothWidths() {
		for _, b := range boxes(width) {
			for at, p := range b.Pairs {
				for _, gap := range gapsFor(width, p) {
					small, great, want := impl.PairCut(width, p, gap)
					first, second, ok := impl.BoxCut(width, b, at, gap)
					if ok != want {
						t.Fatalf("%d: %v is cut at %d by %v: %v", width, b, at, gap, ok)
					}
					if !ok {
						checkNoParts(t, first, second, ok)
						continue
					}
					if !sameBox(first, withPair(b, at, small)) || !sameBox(second, withPair(b, at, great)) {
						t.Fatalf("%d: %v is cut at %d by %v into %v and %v", width, b, at, gap, first, second)
					}
					checkParts(t, width, b, first, second)
				}
			}
		}
	}
}

func checkNoParts(t *testing.T, first impl.Box, second impl.Box, ok bool) {
	t.Helper()
	if ok || len(first.Pairs) != 0 || len(second.Pairs) != 0 {
		t.Errorf("parts %v and %v, %v", first, second, ok)
	}
}

func TestPartsOfWrongBoxes(t *testing.T) {
	none := func(width int, b impl.Box, at int) {
		t.Helper()
		first, second, ok := impl.BoxSplit(width, b, at)
		checkNoParts(t, first, second, ok)
		first, second, ok = impl.BoxCut(width, b, at, impl.Pair{Lo: 3, Hi: 4})
		checkNoParts(t, first, second, ok)
	}
	for _, width := range bothWidths() {
		for _, count := range []int{1, 2, 6} {
			b := impl.Box{Pairs: slices.Repeat([]impl.Pair{{Lo: 0, Hi: 9}}, count)}
			for at := range count {
				if _, _, ok := impl.BoxSplit(width, b, at); !ok {
					t.Errorf("%d: no split at %d", width, at)
				}
				if _, _, ok := impl.BoxCut(width, b, at, impl.Pair{Lo: 3, Hi: 4}); !ok {
					t.Errorf("%d: no cut at %d", width, at)
				}
			}
			for _, at := range []int{math.MinInt, -1, count, count + 1, 6, 7, math.MaxInt} {
				none(width, b, at)
			}
			for _, wrong := range wrongWidths() {
				none(wrong, b, 0)
			}
		}
		for _, b := range wrongBoxes(width) {
			for at := -1; at <= 7; at++ {
				none(width, b, at)
			}
		}
	}
}

// boxHas says whether a box has a point of real numbers.
func boxHas(b impl.Box, x []point) bool {
	for at, p := range b.Pairs {
		if !has(p, x[at]) {
			return false
		}
	}
	return true
}

// pointsOf are all points of a small box: at the floats, and between them.
func pointsOf(b impl.Box) [][]point {
	all := [][]point{nil}
	for _, p := range b.Pairs {
		var longer [][]point
		for _, x := range all {
			for ord := p.Lo; ord <= p.Hi; ord++ {
				longer = append(longer, append(slices.Clone(x), point{ord, false}))
				if ord < p.Hi {
					longer = append(longer, append(slices.Clone(x), point{ord, true}))
				}
			}
		}
		all = longer
	}
	return all
}

// usage is somebody who uses up a box, and keeps the points that were not forgotten yet.
type usage struct {
	width   int
	waiting []impl.Box
	left    [][]point
	taken   int
	most    int
}

// forget gives up points on purpose.
func (u *usage) forget(out func(x []point) bool) {
	u.left = slices.DeleteFunc(u.left, out)
}

// push lets a box wait.
func (u *usage) push(b impl.Box) {
	u.waiting = append(u.waiting, b)
	u.most = max(u.most, len(u.waiting))
}

// lost says whether a point that nobody forgot is in no box that waits.
func (u *usage) lost() bool {
	return slices.ContainsFunc(u.left, func(x []point) bool {
		return !slices.ContainsFunc(u.waiting, func(b impl.Box) bool { return boxHas(b, x) })
	})
}

// unit takes the last box that waits, and does with it what the number says, as far as it can be done.
func (u *usage) unit(choice uint64) {
	b := u.waiting[len(u.waiting)-1]
	u.waiting = u.waiting[:len(u.waiting)-1]
	u.taken++
	at := int(choice>>8) % len(b.Pairs)
	p := b.Pairs[at]
	steps := p.Hi - p.Lo
	if steps == 0 {
		at = impl.BoxWidest(u.width, b)
		p = b.Pairs[at]
		steps = p.Hi - p.Lo
	}
	nowhereElse := func(x []point) bool {
		return !slices.ContainsFunc(u.waiting, func(other impl.Box) bool { return boxHas(other, x) })
	}
	if steps == 0 || choice%32 == 0 {
		u.forget(func(x []point) bool { return boxHas(b, x) && nowhereElse(x) })
		return
	}
	if choice%4 == 1 {
		gap := impl.Pair{Lo: p.Lo + int(choice>>16)%steps}
		gap.Hi = gap.Lo + 1 + int(choice>>24)%(p.Hi-gap.Lo)
		if first, second, ok := impl.BoxCut(u.width, b, at, gap); ok {
			u.forget(func(x []point) bool { return boxHas(b, x) && inGap(gap, x[at]) && nowhereElse(x) })
			u.push(second)
			u.push(first)
			return
		}
	}
	if first, second, ok := impl.BoxSplit(u.width, b, at); ok && choice%4 != 2 {
		u.push(second)
		u.push(first)
		return
	}
	less := withPair(b, at, impl.Pair{Lo: p.Lo + 1, Hi: p.Hi})
	if choice&64 != 0 {
		less = withPair(b, at, impl.Pair{Lo: p.Lo, Hi: p.Hi - 1})
	}
	u.forget(func(x []point) bool { return boxHas(b, x) && !boxHas(less, x) && nowhereElse(x) })
	u.push(less)
}

// Promise 10: a box is used up within its units, few boxes wait, and nothing is lost but what was forgotten.
func TestBoxIsUsedUp(t *testing.T) {
	for _, width := range bothWidths() {
		top := topOf(width)
		s := spread{10}
		for _, pairs := range [][]impl.Pair{
			{{Lo: 3, Hi: 3}},
			{{Lo: 3, Hi: 4}},
			{{Lo: 3, Hi: 5}},
			{{Lo: -20, Hi: 11}},
			{{Lo: 0, Hi: 2}, {Lo: -3, Hi: 2}},
			{{Lo: 0, Hi: 1}, {Lo: 5, Hi: 5}, {Lo: -1, Hi: 1}},
			{{Lo: 0, Hi: 1}, {Lo: 2, Hi: 3}, {Lo: 4, Hi: 5}, {Lo: 6, Hi: 6}, {Lo: 7, Hi: 7}, {Lo: 8, Hi: 9}},
			{{Lo: 1 - top, Hi: 6 - top}, {Lo: top - 4, Hi: top - 1}},
		} {
			for range 15 {
				checkUsedUp(t, width, impl.Box{Pairs: pairs}, &s)
			}
		}
	}
}

// checkUsedUp uses up a box, what is done with each being chosen by a row of numbers.
func checkUsedUp(t *testing.T, width int, b impl.Box, s *spread) {
	t.Helper()
	units, path := impl.BoxUnits(width, b), impl.BoxPath(width, b)
	u := usage{width: width, left: pointsOf(b)}
	u.push(b)
	for len(u.waiting) > 0 {
		u.unit(s.next())
		if u.lost() {
			t.Fatalf("%d: %v: points are lost after %d boxes", width, b, u.taken)
		}
		if u.taken > units {
			t.Fatalf("%d: %v: more than %d boxes are taken", width, b, units)
		}
	}
	if u.most > path {
		t.Fatalf("%d: %v: %d boxes wait, not %d at most", width, b, u.most, path)
	}
	if len(u.left) > 0 {
		t.Fatalf("%d: %v: %v is in no box", width, b, u.left[0])
	}
}

// mostUsed is how many boxes can be taken of a pair of so many steps, and how many wait, if one does the worst each time.
func mostUsed(worst [][2]int, steps int) [2]int {
	if steps == 0 {
		return [2]int{1, 1}
	}
	most := [2]int{1 + worst[steps-1][0], worst[steps-1][1]}
	part := func(first int, second int) {
		most[0] = max(most[0], 1+worst[first][0]+worst[second][0])
		most[1] = max(most[1], 1+worst[first][1], worst[second][1])
	}
	for first := range steps {
		for second := first; first+second < steps; second++ {
			part(first, second)
		}
	}
	if steps >= 2 {
		part(steps/2, steps-steps/2)
	}
	return most
}

// Promise 10, of one pair, for whatever is done with it: the worst of all ways stays within both bounds.
func TestWorstOfAllWays(t *testing.T) {
	var worst [][2]int
	for steps := range 200 {
		worst = append(worst, mostUsed(worst, steps))
		for _, width := range bothWidths() {
			b := impl.Box{Pairs: []impl.Pair{{Lo: -7, Hi: steps - 7}}}
			if units, path := impl.BoxUnits(width, b), impl.BoxPath(width, b); worst[steps][0] > units || worst[steps][1] > path {
				t.Fatalf("%d: %d steps: %v can be taken and wait, %d units, path %d", width, steps, worst[steps], units, path)
			}
		}
	}
}
