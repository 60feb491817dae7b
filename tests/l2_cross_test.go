package tests

import (
	"math"
	"math/big"
	"slices"
	"testing"

	"loop.example/pinfold/impl"
)

// anyInts are pairs of bounds from all over int, its ends and those of both widths among them.
func anyInts() []int {
	out := []int{math.MinInt, math.MinInt + 1, -wideTop - 1, -wideTop, 1 - wideTop, -narrowTop, -2, -1, 0, 1, 2, 3,
		narrowTop, 1 << 52, wideTop - 1, wideTop, wideTop + 1, math.MaxInt - 1, math.MaxInt}
	s := spread{3}
	for range 200 {
		out = append(out, int(s.next()), int(s.next())>>(s.next()%64))
	}
	return out
}

func TestGaps(t *testing.T) {
	for _, lo := range anyInts() {
		for _, hi := range anyInts() {
			want := new(big.Int).Sub(big.NewInt(int64(hi)), big.NewInt(int64(lo)))
			if want.Sign() < 0 {
				want.SetInt64(0)
			}
			if got := impl.BitGap(lo, hi); got != want.Uint64() || !want.IsUint64() {
				t.Fatalf("BitGap(%d, %d) = %d, not %v", lo, hi, got, want)
			}
		}
	}
	if got := impl.BitGap(math.MinInt, math.MaxInt); got != math.MaxUint64 {
		t.Error("over all of int", got)
	}
	if got := impl.BitGap(-wideTop, wideTop); got != 18437736874454810624 {
		t.Error("from one infinite one to the other", got)
	}
}

// Promise 5: two halves, all steps together, the lower one the lesser by one at most.
func TestMiddles(t *testing.T) {
	for _, lo := range anyInts() {
		for _, hi := range anyInts() {
			middle := impl.BitMiddle(lo, hi)
			if lo > hi {
				if middle != lo {
					t.Fatalf("BitMiddle(%d, %d) = %d", lo, hi, middle)
				}
				continue
			}
			if middle < lo || middle > hi {
				t.Fatalf("BitMiddle(%d, %d) = %d: outside", lo, hi, middle)
			}
			lower, upper := impl.BitGap(lo, middle), impl.BitGap(middle, hi)
			if lower+upper != impl.BitGap(lo, hi) || upper-lower > 1 {
				t.Fatalf("BitMiddle(%d, %d) = %d: halves %d and %d", lo, hi, middle, lower, upper)
			}
		}
	}
	for _, row := range [][3]int{{2, 5, 3}, {5, 2, 5}, {-1, 0, -1}, {-3, 0, -2}, {4, 4, 4}, {math.MinInt, math.MaxInt, -1}, {-wideTop, wideTop, 0}} {
		if got := impl.BitMiddle(row[0], row[1]); got != row[2] {
			t.Errorf("BitMiddle(%d, %d) = %d", row[0], row[1], got)
		}
	}
}

// Promise 4: widening keeps values and their order.
func TestWidening(t *testing.T) {
	row := ords(32)
	slices.Sort(row)
	row = slices.Compact(row)
	last := math.MinInt
	for _, ord := range row {
		wide, ok := impl.BitWiden(ord)
		if !ok || valueOf(64, wide) != valueOf(32, ord) {
			t.Errorf("BitWiden(%d) = %d %v", ord, wide, ok)
		}
		if wide <= last {
			t.Errorf("BitWiden(%d) = %d is not above %d", ord, wide, last)
		}
		last = wide
		below, is := impl.BitBelow(wide)
		above, too := impl.BitAbove(wide)
		if below != ord || !is || above != ord || !too {
			t.Errorf("%d widened comes back as %d %v and %d %v", ord, below, is, above, too)
		}
	}
}

// wideOrds are wide floats all over, and those beside and halfway between narrow ones.
func wideOrds() []int {
	out := ords(64)
	for _, ord := range ords(32) {
		v := valueOf(32, ord)
		at := ordOf(64, v)
		half := at
		if next := nextTo(32, v, math.Inf(1)); !math.IsInf(v, 0) && !math.IsInf(next, 0) {
			half = ordOf(64, v/2+next/2)
		}
		for beside := -2; beside <= 2; beside++ {
			out = append(out, at+beside, half+beside)
		}
	}
	for _, power := range []int{-1074, -1022, -200, -151, -150, -149, -148, -127, -126, -125, 127, 128, 129, 1000, 1023} {
		at := ordOf(64, math.Ldexp(1, power))
		out = append(out, at-1, at, at+1, 1-at, -at, -at-1)
	}
	// Halfway from the greatest narrow float to 2^128, where rounding to the nearest goes over.
	over := ordOf(64, math.Ldexp(1<<25-1, 103))
	out = append(out, over-1, over, over+1, 1-over, -over, -over-1)
	return slices.DeleteFunc(out, func(ord int) bool { return ord < -wideTop || ord > wideTop })
}

// Promise 4: the narrow neighbours stand on both sides, and are one or next to one another.
func TestNarrowNeighbours(t *testing.T) {
	for _, ord := range wideOrds() {
		below, ok := impl.BitBelow(ord)
		above, too := impl.BitAbove(ord)
		if !ok || !too || !impl.BitOk(32, below) || !impl.BitOk(32, above) {
			t.Fatalf("%d: %d %v, %d %v", ord, below, ok, above, too)
		}
		v, lo, hi := valueOf(64, ord), valueOf(32, below), valueOf(32, above)
		if lo > v || hi < v {
			t.Errorf("%d is %v: not between %v and %v", ord, v, lo, hi)
		}
		exact := lo == v || hi == v
		if exact && below != above || !exact && above != below+1 {
			t.Errorf("%d is %v: neighbours %d and %d", ord, v, below, above)
		}
	}
}

func TestNeighboursAtTheEdges(t *testing.T) {
	for _, row := range []struct{ ord, below, above int }{
		{0, 0, 0},
		{1, 0, 1},
		{-1, -1, 0},
		{wideTop, narrowTop, narrowTop},
		{-wideTop, -narrowTop, -narrowTop},
		{wideTop - 1, narrowTop - 1, narrowTop},
		{1 - wideTop, -narrowTop, 1 - narrowTop},
		{ordOf(64, math.MaxFloat32), narrowTop - 1, narrowTop - 1},
		{ordOf(64, math.MaxFloat32) + 1, narrowTop - 1, narrowTop},
		{-ordOf(64, math.MaxFloat32) - 1, -narrowTop, 1 - narrowTop},
		{ordOf(64, math.Ldexp(1, 128)), narrowTop - 1, narrowTop},
		{ordOf(64, math.Ldexp(-1, 128)), -narrowTop, 1 - narrowTop},
		{ordOf(64, math.Ldexp(1, -149)), 1, 1},
		{ordOf(64, math.Ldexp(1, -149)) - 1, 0, 1},
		{ordOf(64, math.Ldexp(1, -150)), 0, 1},
		{ordOf(64, math.Ldexp(-3, -150)), -2, -1},
	} {
		below, ok := impl.BitBelow(row.ord)
		above, too := impl.BitAbove(row.ord)
		if below != row.below || above != row.above || !ok || !too {
			t.Errorf("%d: %d %v, %d %v", row.ord, below, ok, above, too)
		}
	}
}

func TestCrossingOfNoOrderNumber(t *testing.T) {
	for _, ord := range wrongOrds(32) {
		if wide, ok := impl.BitWiden(ord); wide != 0 || ok {
			t.Errorf("BitWiden(%d) = %d %v", ord, wide, ok)
		}
	}
	for _, ord := range wrongOrds(64) {
		if below, ok := impl.BitBelow(ord); below != 0 || ok {
			t.Errorf("BitBelow(%d) = %d %v", ord, below, ok)
		}
		if above, ok := impl.BitAbove(ord); above != 0 || ok {
			t.Errorf("BitAbove(%d) = %d %v", ord, above, ok)
		}
	}
}
