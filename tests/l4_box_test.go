package tests

import (
	"math"
	"math/big"
	"slices"
	"testing"

	"loop.example/pinfold/impl"
)

func TestBoxesThatAreOk(t *testing.T) {
	for _, width := range bothWidths() {
		for _, b := range boxes(width) {
			if !impl.BoxOk(width, b) {
				t.Errorf("%d: %v is not ok", width, b)
			}
			for _, wrong := range wrongWidths() {
				if impl.BoxOk(wrong, b) {
					t.Fatalf("ok at width %d", wrong)
				}
			}
		}
		for _, b := range wrongBoxes(width) {
			if impl.BoxOk(width, b) {
				t.Errorf("%d: %v is ok", width, b)
			}
		}
		for count := range 9 {
			b := impl.Box{Pairs: make([]impl.Pair, count)}
			if impl.BoxOk(width, b) != (count >= 1 && count <= 6) {
				t.Errorf("%d: a box of %d pairs", width, count)
			}
		}
	}
}

// Promise 13: an ok box comes back from its patterns, which are those of its bounds by turns.
func TestBoxesFromTheirPatterns(t *testing.T) {
	for _, width := range bothWidths() {
		for _, b := range boxes(width) {
			patterns := impl.BoxBits(width, b)
			if len(patterns) != 2*len(b.Pairs) {
				t.Fatalf("%d: %v has %d patterns", width, b, len(patterns))
			}
			for at, p := range b.Pairs {
				lo, hi := floatOf(width, patterns[2*at]), floatOf(width, patterns[2*at+1])
				if lo != valueOf(width, p.Lo) || hi != valueOf(width, p.Hi) || math.Signbit(lo) != (p.Lo < 0) || math.Signbit(hi) != (p.Hi < 0) {
					t.Errorf("%d: the patterns of %v are %v and %v", width, p, lo, hi)
				}
			}
			if back, code := impl.BoxOf(width, patterns); code != 0 || !sameBox(back, b) {
				t.Errorf("%d: %v comes back as %v, code %d", width, b, back, code)
			}
		}
		for _, b := range wrongBoxes(width) {
			if patterns := impl.BoxBits(width, b); len(patterns) != 0 {
				t.Errorf("%d: %v has patterns", width, b)
			}
		}
	}
	for _, width := range wrongWidths() {
		if patterns := impl.BoxBits(width, impl.Box{Pairs: []impl.Pair{{Lo: 0, Hi: 1}}}); len(patterns) != 0 {
			t.Errorf("patterns of width %d", width)
		}
	}
}

// The codes, each looked for in the whole list ahead of the next one.
func TestCodesOfPatterns(t *testing.T) {
	for _, width := range bothWidths() {
		top := uint64(topOf(width))
		sign := uint64(1) << (width - 1)
		none := top + 1
		for count := range 16 {
			good, code := impl.BoxOf(width, make([]uint64, count))
			want := impl.BoxErrCount
			if count%2 == 0 && count >= 2 && count <= 12 {
				want = 0
			}
			if code != want || code == 0 && len(good.Pairs) != count/2 || code != 0 && len(good.Pairs) != 0 {
				t.Errorf("%d: %d patterns: code %d, %v", width, count, code, good)
			}
		}
		for _, row := range []struct {
			bits []uint64
			code int
		}{
			{nil, 1},
			{[]uint64{none}, 1},
			{[]uint64{none, 0, 2}, 1},
			{slices.Repeat([]uint64{none}, 13), 1},
			{slices.Repeat([]uint64{2, 1}, 7), 1},
			{[]uint64{none, 0}, 2},
			{[]uint64{0, none | sign}, 2},
			{[]uint64{2, 1, 0, none}, 2},
			{[]uint64{top, top, none, 0}, 2},
			{[]uint64{math.MaxUint64, 0}, 2},
			{append(slices.Repeat([]uint64{3, 1}, 5), 0, none), 2},
			{[]uint64{2, 1}, 3},
			{[]uint64{0, 1, 2, 1}, 3},
			{[]uint64{top, top}, 3},
			{[]uint64{sign | top, sign | top}, 3},
			{[]uint64{0, sign | 1}, 3},
			{[]uint64{sign | 1, sign | 2}, 3},
			{append(slices.Repeat([]uint64{1, 3}, 5), 2, 1), 3},
			{[]uint64{sign | top, top}, 0},
			{[]uint64{sign, 0}, 0},
			{[]uint64{0, sign}, 0},
			{slices.Repeat([]uint64{1, 3}, 6), 0},
		} {
			b, code := impl.BoxOf(width, row.bits)
			if code != row.code || code != 0 && len(b.Pairs) != 0 {
				t.Errorf("%d: %x: code %d, %v", width, row.bits, code, b)
			}
		}
		if b, _ := impl.BoxOf(width, []uint64{sign, 5, sign | 7, sign}); !sameBox(b, impl.Box{Pairs: []impl.Pair{{Lo: 0, Hi: 5}, {Lo: -7, Hi: 0}}}) {
			t.Errorf("%d: noughts: %v", width, b)
		}
	}
	if _, code := impl.BoxOf(32, []uint64{2 << 32, 1 << 32}); code != impl.BoxErrFloat {
		t.Error("a narrow pattern from 2^32 on", code)
	}
	for _, width := range wrongWidths() {
		for _, bits := range [][]uint64{{0, 1}, {2, 1}, {math.MaxUint64, 0}, nil} {
			if b, code := impl.BoxOf(width, bits); code != impl.BoxErrCount || len(b.Pairs) != 0 {
				t.Errorf("width %d: code %d, %v", width, code, b)
			}
		}
	}
}

func TestBoxesWithin(t *testing.T) {
	s := spread{5}
	for _, b := range boxes(64) {
		if !impl.BoxIs(b, b) || !impl.BoxIs(within(64, &s, b), b) {
			t.Errorf("%v is not within itself", b)
		}
		for at, p := range b.Pairs {
			if impl.BoxIs(withPair(b, at, impl.Pair{Lo: p.Lo - 1, Hi: p.Hi}), b) || impl.BoxIs(withPair(b, at, impl.Pair{Lo: p.Lo, Hi: p.Hi + 1}), b) {
				t.Errorf("%v: more at %d is within", b, at)
			}
		}
		more := impl.Box{Pairs: append(slices.Clone(b.Pairs), impl.Pair{})}
		if impl.BoxIs(b, more) || impl.BoxIs(more, b) || impl.BoxIs(impl.Box{}, b) || impl.BoxIs(b, impl.Box{}) {
			t.Errorf("%v and more pairs", b)
		}
	}
	// Any boxes are held against each other, those that are not ok too.
	many := impl.Box{Pairs: slices.Repeat([]impl.Pair{{Lo: 9, Hi: math.MinInt}}, 50)}
	if !impl.BoxIs(impl.Box{}, impl.Box{Pairs: []impl.Pair{}}) || !impl.BoxIs(many, many) || impl.BoxIs(withPair(many, 49, impl.Pair{Lo: 8, Hi: 0}), many) {
		t.Error("boxes that are not ok")
	}
}

func TestMeetingsOfBoxes(t *testing.T) {
	for _, width := range bothWidths() {
		all := boxes(width)
		s := spread{uint64(width)}
		for _, a := range all {
			checkBoxMeet(t, width, a, within(width, &s, a))
			for range 40 {
				checkBoxMeet(t, width, a, all[s.next()%uint64(len(all))])
			}
		}
		wrong := wrongBoxes(width)
		for i, b := range wrong {
			good := impl.Box{Pairs: make([]impl.Pair, max(1, len(b.Pairs)))}
			checkNoMeet(t, width, b, good)
			checkNoMeet(t, width, good, b)
			checkNoMeet(t, width, b, b)
			checkNoMeet(t, width, b, wrong[len(wrong)-1-i])
		}
	}
	for _, width := range wrongWidths() {
		b := impl.Box{Pairs: []impl.Pair{{Lo: 0, Hi: 1}}}
		checkNoMeet(t, width, b, b)
	}
}

func checkBoxMeet(t *testing.T, width int, a impl.Box, b impl.Box) {
	t.Helper()
	if len(a.Pairs) != len(b.Pairs) {
		checkNoMeet(t, width, a, b)
		return
	}
	want := impl.Box{}
	for at := range a.Pairs {
		p := impl.Pair{Lo: max(a.Pairs[at].Lo, b.Pairs[at].Lo), Hi: min(a.Pairs[at].Hi, b.Pairs[at].Hi)}
		if p.Lo > p.Hi {
			checkNoMeet(t, width, a, b)
			return
		}
		want.Pairs = append(want.Pairs, p)
	}
	if got, ok := impl.BoxMeet(width, a, b); !ok || !sameBox(got, want) {
		t.Fatalf("%d: %v and %v meet in %v %v", width, a, b, got, ok)
	}
}

func checkNoMeet(t *testing.T, width int, a impl.Box, b impl.Box) {
	t.Helper()
	if got, ok := impl.BoxMeet(width, a, b); ok || len(got.Pairs) != 0 {
		t.Fatalf("%d: %v and %v meet in %v %v", width, a, b, got, ok)
	}
}

func TestFineBoxes(t *testing.T) {
	for _, width := range bothWidths() {
		for _, row := range []struct {
			steps, between int
			want           bool
		}{
			{0, 1, true}, {1, 1, true}, {2, 1, true}, {3, 1, false},
			{2, 0, true}, {3, 0, false}, {2, -1, true}, {3, -1, false}, {2, math.MinInt, true}, {3, math.MinInt, false},
			{3, 2, true}, {4, 2, false}, {11, 10, true}, {12, 10, false},
			{1000000, 999999, true}, {1000001, 999999, false},
			{1000001, 1000000, true}, {1000002, 1000000, false},
			{1000001, 1000001, true}, {1000002, 1000001, false}, {1000002, math.MaxInt, false}, {1000001, math.MaxInt, true},
		} {
			p := impl.Pair{Lo: -1, Hi: row.steps - 1}
			if got := impl.BoxFine(width, impl.Box{Pairs: []impl.Pair{p}}, row.between); got != row.want {
				t.Errorf("%d: %d steps, %d between: %v", width, row.steps, row.between, got)
			}
			for at := range 6 {
				b := withPair(impl.Box{Pairs: make([]impl.Pair, 6)}, at, p)
				if got := impl.BoxFine(width, b, row.between); got != row.want {
					t.Errorf("%d: %d steps at %d, %d between: %v", width, row.steps, at, row.between, got)
				}
			}
		}
		whole := impl.Box{Pairs: []impl.Pair{{Lo: -topOf(width), Hi: topOf(width)}}}
		if impl.BoxFine(width, whole, math.MaxInt) {
			t.Errorf("%d: the whole line is fine", width)
		}
		for _, b := range wrongBoxes(width) {
			if impl.BoxFine(width, b, 1000000) || impl.BoxFine(width, b, 0) {
				t.Errorf("%d: %v is fine", width, b)
			}
		}
	}
	for _, width := range wrongWidths() {
		if impl.BoxFine(width, impl.Box{Pairs: make([]impl.Pair, 1)}, 1) {
			t.Errorf("fine at width %d", width)
		}
	}
}

func TestWidestCoordinates(t *testing.T) {
	for _, width := range bothWidths() {
		for _, b := range boxes(width) {
			want := 0
			for at, p := range b.Pairs {
				if stepsOf(p).Cmp(stepsOf(b.Pairs[want])) > 0 {
					want = at
				}
			}
			if got := impl.BoxWidest(width, b); got != want {
				t.Errorf("%d: the widest of %v is %d", width, b, got)
			}
		}
		for _, b := range wrongBoxes(width) {
			if got := impl.BoxWidest(width, b); got != -1 {
				t.Errorf("%d: the widest of %v is %d", width, b, got)
			}
		}
		top := topOf(width)
		for _, row := range []struct {
			pairs []impl.Pair
			want  int
		}{
			{[]impl.Pair{{Lo: 3, Hi: 3}}, 0},
			{[]impl.Pair{{Lo: 3, Hi: 3}, {Lo: 4, Hi: 4}}, 0},
			{[]impl.Pair{{Lo: 3, Hi: 3}, {Lo: 4, Hi: 9}, {Lo: 0, Hi: 5}}, 1},
			{[]impl.Pair{{Lo: 0, Hi: top}, {Lo: -top, Hi: top}, {Lo: -top, Hi: top}}, 1},
			{[]impl.Pair{{}, {}, {}, {}, {}, {Lo: 1, Hi: 2}}, 5},
		} {
			if got := impl.BoxWidest(width, impl.Box{Pairs: row.pairs}); got != row.want {
				t.Errorf("%d: the widest of %v is %d", width, row.pairs, got)
			}
		}
	}
	for _, width := range wrongWidths() {
		if got := impl.BoxWidest(width, impl.Box{Pairs: make([]impl.Pair, 1)}); got != -1 {
			t.Errorf("the widest at width %d is %d", width, got)
		}
	}
}

// halved is whether some coordinate with a step came down to half of them, one box being within the other.
func halved(a impl.Box, b impl.Box) bool {
	for at := range a.Pairs {
		before, after := stepsOf(a.Pairs[at]), stepsOf(b.Pairs[at])
		if before.Sign() > 0 && after.Cmp(before.Rsh(before, 1)) <= 0 {
			return true
		}
	}
	return false
}

func TestHalvedBoxes(t *testing.T) {
	for _, width := range bothWidths() {
		s := spread{uint64(width)}
		for _, a := range boxes(width) {
			for range 8 {
				b := within(width, &s, a)
				if got := impl.BoxHalved(width, a, b); got != halved(a, b) {
					t.Errorf("%d: %v in %v is halved: %v", width, b, a, got)
				}
			}
			for at, p := range a.Pairs {
				if impl.BoxHalved(width, a, withPair(a, at, impl.Pair{Lo: p.Hi, Hi: p.Hi})) && p.Lo == p.Hi {
					t.Errorf("%d: %v is halved at %d, where it has no step", width, a, at)
				}
			}
		}
		for _, row := range []struct {
			a, b impl.Pair
			want bool
		}{
			{impl.Pair{Lo: 0, Hi: 5}, impl.Pair{Lo: 0, Hi: 2}, true},
			{impl.Pair{Lo: 0, Hi: 5}, impl.Pair{Lo: 0, Hi: 3}, false},
			{impl.Pair{Lo: 0, Hi: 4}, impl.Pair{Lo: 1, Hi: 3}, true},
			{impl.Pair{Lo: 0, Hi: 1}, impl.Pair{Lo: 1, Hi: 1}, true},
			{impl.Pair{Lo: 0, Hi: 1}, impl.Pair{Lo: 0, Hi: 1}, false},
			{impl.Pair{Lo: 4, Hi: 4}, impl.Pair{Lo: 4, Hi: 4}, false},
			{impl.Pair{Lo: 0, Hi: 5}, impl.Pair{Lo: 5, Hi: 6}, false},
			{impl.Pair{Lo: 0, Hi: 5}, impl.Pair{Lo: -1, Hi: 0}, false},
		} {
			a, b := impl.Box{Pairs: []impl.Pair{{Lo: 7, Hi: 7}, row.a}}, impl.Box{Pairs: []impl.Pair{{Lo: 7, Hi: 7}, row.b}}
			if got := impl.BoxHalved(width, a, b); got != row.want {
				t.Errorf("%d: %v in %v is halved: %v", width, row.b, row.a, got)
			}
		}
	}
}

func TestHalvedBoxesThatAreWrong(t *testing.T) {
	a, b := impl.Box{Pairs: []impl.Pair{{Lo: 0, Hi: 8}, {Lo: 0, Hi: 8}}}, impl.Box{Pairs: []impl.Pair{{Lo: 0, Hi: 1}, {Lo: 0, Hi: 8}}}
	for _, width := range bothWidths() {
		if !impl.BoxHalved(width, a, b) || impl.BoxHalved(width, b, a) {
			t.Errorf("%d: halved", width)
		}
		if impl.BoxHalved(width, a, impl.Box{Pairs: b.Pairs[:1]}) || impl.BoxHalved(width, impl.Box{Pairs: a.Pairs[:1]}, b) {
			t.Errorf("%d: of different numbers of pairs", width)
		}
		if impl.BoxHalved(width, a, withPair(b, 1, impl.Pair{Lo: 0, Hi: 9})) {
			t.Errorf("%d: halved, and not within", width)
		}
		for _, wrong := range wrongBoxes(width) {
			good := impl.Box{Pairs: slices.Repeat([]impl.Pair{{Lo: -9, Hi: 99}}, max(1, min(6, len(wrong.Pairs))))}
			if impl.BoxHalved(width, good, wrong) || impl.BoxHalved(width, wrong, good) || impl.BoxHalved(width, wrong, wrong) {
				t.Errorf("%d: %v is halved", width, wrong)
			}
		}
		// Within by its bounds, and less than half; yet it has no real number.
		if impl.BoxHalved(width, a, withPair(b, 0, impl.Pair{Lo: 6, Hi: 5})) {
			t.Errorf("%d: a box that is not ok", width)
		}
	}
	for _, width := range wrongWidths() {
		if impl.BoxHalved(width, a, b) {
			t.Errorf("halved at width %d", width)
		}
	}
}

func TestUnitsAndPaths(t *testing.T) {
	for _, width := range bothWidths() {
		for _, b := range boxes(width) {
			want := unitsOf(b)
			if want.Cmp(big.NewInt(impl.BoxMaxUnits)) > 0 {
				want.SetInt64(impl.BoxMaxUnits)
			}
			if got := impl.BoxUnits(width, b); int64(got) != want.Int64() {
				t.Errorf("%d: %v has %d units, not %v", width, b, got, want)
			}
			if got := impl.BoxPath(width, b); got != pathOf(b) {
				t.Errorf("%d: %v has the path %d", width, b, got)
			}
		}
		for _, b := range wrongBoxes(width) {
			if impl.BoxUnits(width, b) != 0 || impl.BoxPath(width, b) != 0 {
				t.Errorf("%d: %v has units or a path", width, b)
			}
		}
	}
	for _, width := range wrongWidths() {
		b := impl.Box{Pairs: make([]impl.Pair, 1)}
		if impl.BoxUnits(width, b) != 0 || impl.BoxPath(width, b) != 0 {
			t.Errorf("units or a path at width %d", width)
		}
	}
}

// A product of odd numbers is never just BoxMaxUnits, which is even: the nearest ones stand at both its sides.
func TestUnitsAtTheLimit(t *testing.T) {
	for _, row := range []struct {
		steps []int
		units int
		path  int
	}{
		{[]int{0}, 1, 1},
		{[]int{1}, 3, 2},
		{[]int{2}, 7, 3},
		{[]int{3}, 11, 3},
		{[]int{0, 0, 0, 0, 0, 0}, 1, 1},
		{[]int{1, 1, 1, 1, 1, 1}, 729, 7},
		{[]int{5, 0, 1}, 57, 5},
		{[]int{250000000}, 999999999, 29},
		{[]int{250000001}, 1000000000, 29},
		{[]int{250000000, 0, 0}, 999999999, 29},
		{[]int{250000000, 1}, 1000000000, 30},
		{[]int{2, 35714286}, 1000000000, 29},
		{[]int{2, 35714285}, 999999973, 29},
		{[]int{0, 35714285, 0, 2}, 999999973, 29},
		{[]int{1000000000}, 1000000000, 31},
		{[]int{2000000000, 2000000000}, 1000000000, 63},
	} {
		b := impl.Box{}
		for _, steps := range row.steps {
			b.Pairs = append(b.Pairs, impl.Pair{Lo: -3, Hi: steps - 3})
		}
		for _, width := range bothWidths() {
			if units, path := impl.BoxUnits(width, b), impl.BoxPath(width, b); units != row.units || path != row.path {
				t.Errorf("%d: %v: %d units, path %d", width, row.steps, units, path)
			}
		}
	}
	// Products that are small, or 0, in 64 bits.
	for _, steps := range []int{1 << 61, 1 << 62, 1<<62 + 1, 1<<62 + 2} {
		if got := impl.BoxUnits(64, impl.Box{Pairs: []impl.Pair{{Lo: 0, Hi: steps}}}); got != impl.BoxMaxUnits {
			t.Errorf("%d steps: %d units", steps, got)
		}
	}
	for count := 1; count <= 6; count++ {
		narrow := impl.Box{Pairs: slices.Repeat([]impl.Pair{{Lo: -narrowTop, Hi: narrowTop}}, count)}
		wide := impl.Box{Pairs: slices.Repeat([]impl.Pair{{Lo: -wideTop, Hi: wideTop}}, count)}
		if impl.BoxUnits(32, narrow) != impl.BoxMaxUnits || impl.BoxUnits(64, wide) != impl.BoxMaxUnits {
			t.Errorf("the whole of %d coordinates", count)
		}
		if impl.BoxPath(32, narrow) != 1+32*count || impl.BoxPath(64, wide) != 1+64*count {
			t.Errorf("the paths of %d coordinates", count)
		}
	}
}

// Promise 11: a box within another one has no more units, no longer a path, and is fine wherever that one is.
func TestLessWithin(t *testing.T) {
	for _, width := range bothWidths() {
		s := spread{uint64(width) + 1}
		for _, b := range boxes(width) {
			a := within(width, &s, b)
			if impl.BoxUnits(width, a) > impl.BoxUnits(width, b) || impl.BoxPath(width, a) > impl.BoxPath(width, b) {
				t.Errorf("%d: %v within %v has more units or a longer path", width, a, b)
			}
			for _, between := range []int{-1, 1, 2, 3, 100, 1000000, 2000000} {
				if impl.BoxFine(width, b, between) && !impl.BoxFine(width, a, between) {
					t.Errorf("%d: %v within %v is not fine with %d", width, a, b, between)
				}
			}
		}
	}
}

// Promise 12: a wide box lies within its narrow one, widened again; a narrow box that is widened comes back.
func TestBoxesFromWidthToWidth(t *testing.T) {
	for _, b := range boxes(64) {
		narrow, ok := impl.BoxLess(b)
		if !ok || !impl.BoxOk(32, narrow) || len(narrow.Pairs) != len(b.Pairs) {
			t.Fatalf("BoxLess(%v) = %v %v", b, narrow, ok)
		}
		for at, p := range b.Pairs {
			if want, _ := impl.PairLess(p); narrow.Pairs[at] != want {
				t.Errorf("BoxLess(%v) = %v", b, narrow)
			}
		}
		wide, ok := impl.BoxMore(narrow)
		if !ok || !impl.BoxIs(b, wide) {
			t.Errorf("%v is not within %v, widened %v", b, narrow, wide)
		}
	}
	for _, b := range boxes(32) {
		wide, ok := impl.BoxMore(b)
		back, too := impl.BoxLess(wide)
		if !ok || !too || !sameBox(back, b) {
			t.Errorf("%v widened is %v %v, and comes back as %v %v", b, wide, ok, back, too)
		}
		for at, p := range b.Pairs {
			if valueOf(64, wide.Pairs[at].Lo) != valueOf(32, p.Lo) || valueOf(64, wide.Pairs[at].Hi) != valueOf(32, p.Hi) {
				t.Errorf("%v widened is %v", b, wide)
			}
		}
	}
	for _, b := range wrongBoxes(64) {
		if got, ok := impl.BoxLess(b); ok || len(got.Pairs) != 0 {
			t.Errorf("BoxLess(%v) = %v %v", b, got, ok)
		}
	}
	for _, b := range wrongBoxes(32) {
		if got, ok := impl.BoxMore(b); ok || len(got.Pairs) != 0 {
			t.Errorf("BoxMore(%v) = %v %v", b, got, ok)
		}
	}
}
