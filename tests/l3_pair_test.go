package tests

import (
	"math"
	"math/big"
	"testing"

	"loop.example/pinfold/impl"
)

func TestPairsThatAreOk(t *testing.T) {
	for _, width := range bothWidths() {
		for _, p := range okPairs(width) {
			if !impl.PairOk(width, p) {
				t.Errorf("%d: %v is not ok", width, p)
			}
		}
		for _, p := range wrongPairs(width) {
			if impl.PairOk(width, p) {
				t.Errorf("%d: %v is ok", width, p)
			}
		}
		top := topOf(width)
		for _, row := range []struct {
			p    impl.Pair
			want bool
		}{
			{impl.Pair{Lo: -top, Hi: top}, true},
			{impl.Pair{Lo: -top, Hi: 1 - top}, true},
			{impl.Pair{Lo: top - 1, Hi: top}, true},
			{impl.Pair{Lo: top - 1, Hi: top - 1}, true},
			{impl.Pair{}, true},
			{impl.Pair{Lo: top, Hi: top}, false},
			{impl.Pair{Lo: -top, Hi: -top}, false},
			{impl.Pair{Lo: 0, Hi: top + 1}, false},
			{impl.Pair{Lo: -top - 1, Hi: 0}, false},
			{impl.Pair{Lo: 2, Hi: 1}, false},
		} {
			if impl.PairOk(width, row.p) != row.want {
				t.Errorf("%d: PairOk of %v is not %v", width, row.p, row.want)
			}
		}
	}
	for _, width := range wrongWidths() {
		if impl.PairOk(width, impl.Pair{}) || impl.PairOk(width, impl.Pair{Lo: -1, Hi: 1}) {
			t.Errorf("ok at width %d", width)
		}
	}
	if impl.PairOk(32, impl.Pair{Lo: 0, Hi: wideTop}) || !impl.PairOk(64, impl.Pair{Lo: 0, Hi: narrowTop + 1}) {
		t.Error("the other width's bounds")
	}
}

func TestPairsWithin(t *testing.T) {
	row := append(okPairs(64), wrongPairs(32)...)
	row = append(row, wrongPairs(64)...)
	for _, a := range row {
		for _, b := range row {
			if want := a.Lo >= b.Lo && a.Hi <= b.Hi; impl.PairIs(a, b) != want {
				t.Fatalf("PairIs(%v, %v) is not %v", a, b, want)
			}
		}
	}
	p := impl.Pair{Lo: 3, Hi: 8}
	for _, a := range []impl.Pair{p, {Lo: 4, Hi: 7}, {Lo: 8, Hi: 3}, {Lo: 3, Hi: 3}, {Lo: 8, Hi: 8}} {
		if !impl.PairIs(a, p) {
			t.Errorf("%v is not within %v", a, p)
		}
	}
	for _, a := range []impl.Pair{{Lo: 2, Hi: 8}, {Lo: 3, Hi: 9}, {Lo: 2, Hi: 2}, {Lo: 9, Hi: 9}} {
		if impl.PairIs(a, p) {
			t.Errorf("%v is within %v", a, p)
		}
	}
}

// Promise 8: the meeting has what both have, the hull is the least around both, and both orders answer the same.
func TestMeetingsAndHulls(t *testing.T) {
	for _, width := range bothWidths() {
		for _, a := range okPairs(width) {
			for _, b := range okPairs(width) {
				checkMeet(t, width, a, b)
				checkHull(t, width, a, b)
			}
		}
	}
}

func checkMeet(t *testing.T, width int, a impl.Pair, b impl.Pair) {
	t.Helper()
	meet, ok := impl.PairMeet(width, a, b)
	back, too := impl.PairMeet(width, b, a)
	if meet != back || ok != too {
		t.Fatalf("%d: %v and %v meet in %v %v or in %v %v", width, a, b, meet, ok, back, too)
	}
	if !ok && meet != (impl.Pair{}) || ok && !realPair(width, meet) {
		t.Fatalf("%d: %v and %v meet in %v %v", width, a, b, meet, ok)
	}
	for _, x := range pointsNear(width, a.Lo, a.Hi, b.Lo, b.Hi) {
		if both := has(a, x) && has(b, x); both != (ok && has(meet, x)) {
			t.Fatalf("%d: %v and %v meet in %v %v: of %v not so", width, a, b, meet, ok, x)
		}
	}
}

func checkHull(t *testing.T, width int, a impl.Pair, b impl.Pair) {
	t.Helper()
	hull, ok := impl.PairHull(width, a, b)
	back, too := impl.PairHull(width, b, a)
	if hull != back || !ok || !too {
		t.Fatalf("%d: %v and %v have the hull %v %v or %v %v", width, a, b, hull, ok, back, too)
	}
	around := hull.Lo <= a.Lo && hull.Lo <= b.Lo && hull.Hi >= a.Hi && hull.Hi >= b.Hi
	least := (hull.Lo == a.Lo || hull.Lo == b.Lo) && (hull.Hi == a.Hi || hull.Hi == b.Hi)
	if !around || !least {
		t.Fatalf("%d: %v and %v have the hull %v", width, a, b, hull)
	}
}

func TestMeetingsAndHullsOfWrongPairs(t *testing.T) {
	none := func(width int, a impl.Pair, b impl.Pair) {
		t.Helper()
		if p, ok := impl.PairMeet(width, a, b); ok || p != (impl.Pair{}) {
			t.Errorf("%d: %v and %v meet in %v %v", width, a, b, p, ok)
		}
		if p, ok := impl.PairHull(width, a, b); ok || p != (impl.Pair{}) {
			t.Errorf("%d: %v and %v have the hull %v %v", width, a, b, p, ok)
		}
	}
	for _, width := range bothWidths() {
		for _, wrong := range wrongPairs(width) {
			for _, p := range append(okPairs(width)[:6], wrong) {
				none(width, wrong, p)
				none(width, p, wrong)
			}
		}
	}
	for _, width := range wrongWidths() {
		none(width, impl.Pair{}, impl.Pair{})
		none(width, impl.Pair{Lo: 1, Hi: 4}, impl.Pair{Lo: 2, Hi: 9})
	}
}

// Promise 6: no real number is lost, each part has fewer steps, the first one at most half of them.
func TestSplits(t *testing.T) {
	for _, width := range bothWidths() {
		for _, p := range okPairs(width) {
			first, second, ok := impl.PairSplit(width, p)
			steps := stepsOf(p)
			if steps.Cmp(big.NewInt(2)) < 0 {
				if ok || first != (impl.Pair{}) || second != (impl.Pair{}) {
					t.Errorf("%d: %v, of %v steps, is split into %v and %v", width, p, steps, first, second)
				}
				continue
			}
			if !ok || !realPair(width, first) || !realPair(width, second) {
				t.Fatalf("%d: %v is split into %v and %v, %v", width, p, first, second, ok)
			}
			half := new(big.Int).Rsh(steps, 1)
			if first.Lo != p.Lo || first.Hi != second.Lo || second.Hi != p.Hi || stepsOf(first).Cmp(half) != 0 {
				t.Errorf("%d: %v is split into %v and %v", width, p, first, second)
			}
			if stepsOf(first).Cmp(steps) >= 0 || stepsOf(second).Cmp(steps) >= 0 {
				t.Errorf("%d: a part of %v, %v or %v, has no fewer steps", width, p, first, second)
			}
			for _, x := range pointsNear(width, p.Lo, p.Hi, first.Hi) {
				if has(p, x) != (has(first, x) || has(second, x)) {
					t.Fatalf("%d: %v is split into %v and %v: of %v not so", width, p, first, second, x)
				}
			}
		}
	}
}

func TestSplitsOfFewStepsAndWrongPairs(t *testing.T) {
	for _, width := range bothWidths() {
		top := topOf(width)
		for _, row := range [][4]int{{4, 6, 5, 0}, {-1, 1, 0, 0}, {-top, top, 0, 0}, {-top, 2 - top, 1 - top, 0}, {top - 2, top, top - 1, 0}, {0, 3, 1, 0}, {-3, 0, -2, 0}} {
			a, b, ok := impl.PairSplit(width, impl.Pair{Lo: row[0], Hi: row[1]})
			if !ok || a != (impl.Pair{Lo: row[0], Hi: row[2]}) || b != (impl.Pair{Lo: row[2], Hi: row[1]}) {
				t.Errorf("%d: %v: %v %v %v", width, row, a, b, ok)
			}
		}
		none := append(wrongPairs(width), impl.Pair{Lo: 4, Hi: 4}, impl.Pair{Lo: 4, Hi: 5}, impl.Pair{Lo: -top, Hi: 1 - top}, impl.Pair{Lo: top - 1, Hi: top})
		for _, p := range none {
			if a, b, ok := impl.PairSplit(width, p); ok || a != (impl.Pair{}) || b != (impl.Pair{}) {
				t.Errorf("%d: %v is split into %v and %v, %v", width, p, a, b, ok)
			}
		}
	}
	for _, width := range wrongWidths() {
		if a, b, ok := impl.PairSplit(width, impl.Pair{Lo: 0, Hi: 8}); ok || a != (impl.Pair{}) || b != (impl.Pair{}) {
			t.Errorf("split at width %d: %v %v", width, a, b)
		}
	}
}

// gapsFor are gaps beside, at and within a pair, and some that are none.
func gapsFor(width int, p impl.Pair) []impl.Pair {
	top := topOf(width)
	middle := impl.BitMiddle(p.Lo, p.Hi)
	third := p.Lo + int(impl.BitGap(p.Lo, p.Hi)/3)
	bounds := []int{math.MinInt, -top, p.Lo, third, middle, p.Hi, top, math.MaxInt}
	for _, at := range []int{p.Lo, middle, p.Hi} {
		bounds = append(bounds, at-1, at+1)
	}
	var out []impl.Pair
	for _, lo := range bounds {
		for _, hi := range bounds {
			out = append(out, impl.Pair{Lo: lo, Hi: hi})
		}
	}
	return out
}

// Promise 7: each real number that is not within the gap is left, and the first part has at most half of the steps.
func TestCuts(t *testing.T) {
	for _, width := range bothWidths() {
		for _, p := range okPairs(width) {
			for _, gap := range gapsFor(width, p) {
				checkCut(t, width, p, gap)
			}
		}
	}
}

func checkCut(t *testing.T, width int, p impl.Pair, gap impl.Pair) {
	t.Helper()
	first, second, ok := impl.PairCut(width, p, gap)
	low, high := impl.Pair{Lo: p.Lo, Hi: gap.Lo}, impl.Pair{Lo: gap.Hi, Hi: p.Hi}
	if want := gap.Lo < gap.Hi && realPair(width, low) && realPair(width, high); ok != want {
		t.Fatalf("%d: %v without %v is cut: %v", width, p, gap, ok)
	}
	if !ok {
		if first != (impl.Pair{}) || second != (impl.Pair{}) {
			t.Fatalf("%d: %v without %v is not cut, yet %v and %v", width, p, gap, first, second)
		}
		return
	}
	if stepsOf(high).Cmp(stepsOf(low)) < 0 {
		low, high = high, low
	}
	if first != low || second != high {
		t.Fatalf("%d: %v without %v is %v and %v", width, p, gap, first, second)
	}
	if twice := new(big.Int).Lsh(stepsOf(first), 1); twice.Cmp(stepsOf(p)) > 0 {
		t.Fatalf("%d: %v without %v begins with %v, of more than half the steps", width, p, gap, first)
	}
	for _, x := range pointsNear(width, p.Lo, p.Hi, gap.Lo, gap.Hi) {
		left := has(first, x) || has(second, x)
		if left != (has(p, x) && !inGap(gap, x)) {
			t.Fatalf("%d: %v without %v is %v and %v: of %v not so", width, p, gap, first, second, x)
		}
	}
}

func TestCutsAtTheEdges(t *testing.T) {
	p := func(lo int, hi int) impl.Pair { return impl.Pair{Lo: lo, Hi: hi} }
	for _, width := range bothWidths() {
		top := topOf(width)
		for _, row := range []struct{ p, gap, first, second impl.Pair }{
			{p(0, 10), p(6, 8), p(8, 10), p(0, 6)},
			{p(0, 10), p(2, 7), p(0, 2), p(7, 10)},
			{p(0, 10), p(4, 6), p(0, 4), p(6, 10)},
			{p(0, 1), p(0, 1), p(0, 0), p(1, 1)},
			{p(0, 10), p(0, 10), p(0, 0), p(10, 10)},
			{p(0, 10), p(0, 4), p(0, 0), p(4, 10)},
			{p(0, 10), p(4, 10), p(10, 10), p(0, 4)},
			{p(-top, top), p(1-top, top-1), p(-top, 1-top), p(top-1, top)},
			{p(-top, top), p(-1, 1), p(-top, -1), p(1, top)},
		} {
			a, b, ok := impl.PairCut(width, row.p, row.gap)
			if !ok || a != row.first || b != row.second {
				t.Errorf("%d: %v without %v: %v %v %v", width, row.p, row.gap, a, b, ok)
			}
		}
		none := [][2]impl.Pair{{p(0, 10), p(5, 5)}, {p(0, 10), p(6, 5)}, {p(0, 10), p(-1, 11)}, {p(0, 10), p(-1, 5)}, {p(0, 10), p(5, 11)},
			{p(0, 10), p(20, 30)}, {p(0, 10), p(-30, -20)}, {p(0, 10), p(10, 11)}, {p(0, 10), p(-1, 0)}, {p(3, 3), p(3, 3)}, {p(3, 3), p(2, 4)},
			{p(0, 10), p(math.MinInt, math.MaxInt)}, {p(0, 10), p(5, math.MaxInt)}, {p(0, 10), p(math.MinInt, 5)}, {p(0, 10), p(5, math.MinInt)},
			{p(-top, top), p(-top, 0)}, {p(-top, top), p(0, top)}, {p(-top, top), p(-top, top)}}
		for _, wrong := range wrongPairs(width) {
			none = append(none, [2]impl.Pair{wrong, p(3, 5)})
		}
		for _, row := range none {
			if a, b, ok := impl.PairCut(width, row[0], row[1]); ok || a != p(0, 0) || b != p(0, 0) {
				t.Errorf("%d: %v without %v: %v %v %v", width, row[0], row[1], a, b, ok)
			}
		}
	}
	for _, width := range wrongWidths() {
		if a, b, ok := impl.PairCut(width, p(0, 10), p(4, 6)); ok || a != p(0, 0) || b != p(0, 0) {
			t.Errorf("cut at width %d: %v %v", width, a, b)
		}
	}
}

// Promise 12, of one pair: the narrow pair is the least one around a wide one, and widening keeps both values.
func TestPairsFromWidthToWidth(t *testing.T) {
	for _, p := range okPairs(64) {
		narrow, ok := impl.PairLess(p)
		if !ok || !realPair(32, narrow) {
			t.Fatalf("PairLess(%v) = %v %v", p, narrow, ok)
		}
		lo, hi := valueOf(64, p.Lo), valueOf(64, p.Hi)
		around := valueOf(32, narrow.Lo) <= lo && hi <= valueOf(32, narrow.Hi)
		least := valueOf(32, narrow.Lo+1) > lo && hi > valueOf(32, narrow.Hi-1)
		if !around || !least {
			t.Errorf("PairLess(%v) = %v", p, narrow)
		}
	}
	for _, p := range okPairs(32) {
		wide, ok := impl.PairMore(p)
		if !ok || valueOf(64, wide.Lo) != valueOf(32, p.Lo) || valueOf(64, wide.Hi) != valueOf(32, p.Hi) {
			t.Errorf("PairMore(%v) = %v %v", p, wide, ok)
		}
		if back, is := impl.PairLess(wide); !is || back != p {
			t.Errorf("%v widened comes back as %v %v", p, back, is)
		}
	}
	for _, row := range [][2]impl.Pair{
		{{Lo: -wideTop, Hi: wideTop}, {Lo: -narrowTop, Hi: narrowTop}},
		{{Lo: wideTop - 1, Hi: wideTop}, {Lo: narrowTop - 1, Hi: narrowTop}},
		{{Lo: wideTop - 1, Hi: wideTop - 1}, {Lo: narrowTop - 1, Hi: narrowTop}},
		{{Lo: 1 - wideTop, Hi: 1 - wideTop}, {Lo: -narrowTop, Hi: 1 - narrowTop}},
		{{Lo: 1, Hi: 1}, {Lo: 0, Hi: 1}},
		{{Lo: -1, Hi: 0}, {Lo: -1, Hi: 0}},
	} {
		if narrow, ok := impl.PairLess(row[0]); !ok || narrow != row[1] {
			t.Errorf("PairLess(%v) = %v %v", row[0], narrow, ok)
		}
	}
}

func TestWrongPairsFromWidthToWidth(t *testing.T) {
	for _, p := range wrongPairs(64) {
		if narrow, ok := impl.PairLess(p); ok || narrow != (impl.Pair{}) {
			t.Errorf("PairLess(%v) = %v %v", p, narrow, ok)
		}
	}
	for _, p := range wrongPairs(32) {
		if wide, ok := impl.PairMore(p); ok || wide != (impl.Pair{}) {
			t.Errorf("PairMore(%v) = %v %v", p, wide, ok)
		}
	}
}
