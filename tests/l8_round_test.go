package tests

import (
	"math/big"
	"testing"

	"loop.example/pinfold/impl"
)

// Promises 30 and 37 of fractions: what is rounded is what math/big finds.
func TestRoundedFractions(t *testing.T) {
	for _, width := range bothWidths() {
		for _, r := range ratsToRound(width) {
			if !fitsRat(r) {
				t.Fatalf("%s is no fraction", aNumber(r))
			}
			checkRounded(t, width, r)
		}
	}
}

// Promise 30, as it is said: by what the program itself tells of values and of their order.
func TestFractionsLieBetween(t *testing.T) {
	for _, width := range bothWidths() {
		for at, r := range ratsToRound(width) {
			if at%3 == 0 {
				checkBetween(t, width, r)
			}
		}
	}
}

func checkBetween(t *testing.T, width int, r *big.Rat) {
	t.Helper()
	f := fracOf(r)
	lo, _ := impl.FloatDown(width, f)
	hi, _ := impl.FloatUp(width, f)
	below, isLo := impl.FloatFrac(width, lo)
	above, isHi := impl.FloatFrac(width, hi)
	if isLo && impl.FracCmp(below, f) > 0 || isHi && impl.FracCmp(f, above) > 0 {
		t.Errorf("%d: %s does not lie between %d and %d", width, aNumber(r), lo, hi)
	}
	isValue := isLo && impl.FracCmp(below, f) == 0 || isHi && impl.FracCmp(above, f) == 0
	if isValue && lo != hi || !isValue && hi != lo+1 {
		t.Errorf("%d: %s is rounded to %d and %d", width, aNumber(r), lo, hi)
	}
	near, _ := impl.FloatNear(width, f)
	if kind := impl.BitKindOf(width, near); kind == impl.BitInfinite || near != lo && near != hi {
		t.Errorf("%d: %s is rounded to %d and %d, near %d", width, aNumber(r), lo, hi, near)
	}
	down, isDown := impl.FracSub(f, below)
	up, isUp := impl.FracSub(above, f)
	// A difference may have too many digits to be told.
	if !isDown || !isUp {
		return
	}
	order := impl.FracCmp(down, up)
	if order < 0 && near != lo || order > 0 && near != hi || order == 0 && near%2 != 0 && lo != hi {
		t.Errorf("%d: %s is near %d, of %d and %d", width, aNumber(r), near, lo, hi)
	}
}

// rounding is what a fraction should be rounded to.
type rounding struct {
	r              *big.Rat
	down, up, near int
}

func checkRounding(t *testing.T, width int, want rounding) {
	t.Helper()
	for _, side := range []bool{false, true} {
		r, lo, hi, near := want.r, want.down, want.up, want.near
		if side {
			r, lo, hi, near = negRat(r), -hi, -lo, -near
		}
		f := fracOf(r)
		down, _ := impl.FloatDown(width, f)
		up, _ := impl.FloatUp(width, f)
		nearest, ok := impl.FloatNear(width, f)
		if !ok || down != lo || up != hi || nearest != near {
			t.Errorf("%d: %s is rounded to %d, %d, %d, not to %d, %d, %d", width, aNumber(r), down, up, nearest, lo, hi, near)
		}
		if p, is := impl.PairFrac(width, f); !is || p != (impl.Pair{Lo: lo, Hi: hi}) {
			t.Errorf("%d: %s has the pair %v %v", width, aNumber(r), p, is)
		}
	}
}

// The least floats have fewer bits, and are as far from one another as the least one is from 0.
func TestRoundedAmongTheLeastFloats(t *testing.T) {
	for _, width := range bothWidths() {
		step := 1 << fractionOf(width)
		wide := int64(step)
		for _, want := range []rounding{
			{new(big.Rat), 0, 0, 0},
			{rat(big.NewInt(1), mostNat()), 0, 1, 0},
			{leastTimes(width, 1, 1000000), 0, 1, 0},
			{leastTimes(width, 1, 3), 0, 1, 0},
			{leastTimes(width, 1, 2), 0, 1, 0},
			{leastTimes(width, 500001, 1000000), 0, 1, 1},
			{leastTimes(width, 2, 3), 0, 1, 1},
			{leastTimes(width, 1, 1), 1, 1, 1},
			{leastTimes(width, 4, 3), 1, 2, 1},
			{leastTimes(width, 3, 2), 1, 2, 2},
			{leastTimes(width, 5, 3), 1, 2, 2},
			{leastTimes(width, 5, 2), 2, 3, 2},
			{leastTimes(width, 7, 2), 3, 4, 4},
			{leastTimes(width, wide-2, 1), step - 2, step - 2, step - 2},
			{leastTimes(width, 2*wide-3, 2), step - 2, step - 1, step - 2},
			{leastTimes(width, 2*wide-1, 2), step - 1, step, step},
			{leastTimes(width, 3*wide-2, 3), step - 1, step, step - 1},
			{leastTimes(width, 2*wide+1, 2), step, step + 1, step},
			{leastTimes(width, 4*wide-1, 2), 2*step - 1, 2 * step, 2 * step},
			{leastTimes(width, 2*wide+1, 1), 2 * step, 2*step + 1, 2 * step},
			{leastTimes(width, 2*wide+3, 1), 2*step + 1, 2*step + 2, 2*step + 2},
		} {
			checkRounding(t, width, want)
		}
	}
}

// Half way between two floats the one whose order number is even is taken, also across two exponents.
func TestRoundedHalfWay(t *testing.T) {
	for _, width := range bothWidths() {
		step := 1 << fractionOf(width)
		one := topOf(width)/2 - step/2
		fine := new(big.Int).Mul(big.NewInt(int64(step)), big.NewInt(4))
		above := func(quarters int64) *big.Rat { return rat(moved(fine, quarters), fine) }
		for _, want := range []rounding{
			{above(0), one, one, one},
			{above(1), one, one + 1, one},
			{above(2), one, one + 1, one},
			{above(3), one, one + 1, one + 1},
			{above(4), one + 1, one + 1, one + 1},
			{above(5), one + 1, one + 2, one + 1},
			{above(6), one + 1, one + 2, one + 2},
			{above(7), one + 1, one + 2, one + 2},
			// Below 1 the floats stand twice as close.
			{above(-1), one - 1, one, one},
			{above(-2), one - 1, one - 1, one - 1},
			{above(-3), one - 2, one - 1, one - 2},
			{above(-5), one - 3, one - 2, one - 2},
			{above(-7), one - 4, one - 3, one - 4},
			{rat(moved(mostNat(), -1), mostNat()), one - 1, one, one},
			{rat(mostNat(), moved(mostNat(), -1)), one, one + 1, one},
		} {
			checkRounding(t, width, want)
		}
	}
}

// What is beyond the greatest finite float is near that one, however far it lies.
func TestRoundedBeyondTheGreatest(t *testing.T) {
	for _, width := range bothWidths() {
		top := topOf(width)
		greatest := ratOf(width, top-1)
		checkRounding(t, width, rounding{greatest, top - 1, top - 1, top - 1})
		checkRounding(t, width, rounding{new(big.Rat).Sub(greatest, smallRat(1, 1)), top - 2, top - 1, top - 1})
		for _, r := range ratsBeyond(width) {
			checkRounding(t, width, rounding{r, top - 1, top, top - 1})
		}
	}
	narrow := wholeRat(new(big.Int).Sub(powerOfTwo(128), powerOfTwo(103)))
	for _, r := range []*big.Rat{narrow, wholeRat(powerOfTwo(128)), new(big.Rat).Add(narrow, smallRat(1, 1))} {
		checkRounding(t, 32, rounding{r, narrowTop - 1, narrowTop, narrowTop - 1})
	}
}

// A tenth and a third, by their patterns.
func TestRoundedByPatterns(t *testing.T) {
	for _, row := range []struct {
		width int
		want  rounding
	}{
		{32, rounding{smallRat(1, 10), 0x3dcccccc, 0x3dcccccd, 0x3dcccccd}},
		{64, rounding{smallRat(1, 10), 0x3fb9999999999999, 0x3fb999999999999a, 0x3fb999999999999a}},
		{32, rounding{smallRat(1, 3), 0x3eaaaaaa, 0x3eaaaaab, 0x3eaaaaab}},
		{64, rounding{smallRat(1, 3), 0x3fd5555555555555, 0x3fd5555555555556, 0x3fd5555555555555}},
		{32, rounding{smallRat(16777217, 1), 0x4b800000, 0x4b800001, 0x4b800000}},
		{32, rounding{smallRat(16777219, 1), 0x4b800001, 0x4b800002, 0x4b800002}},
		{64, rounding{smallRat(16777217, 1), 0x4170000010000000, 0x4170000010000000, 0x4170000010000000}},
		{64, rounding{smallRat(9007199254740993, 1), 0x4340000000000000, 0x4340000000000001, 0x4340000000000000}},
		{64, rounding{smallRat(1, 2), 0x3fe0000000000000, 0x3fe0000000000000, 0x3fe0000000000000}},
	} {
		checkRounding(t, row.width, row.want)
	}
}

func TestRoundedOfWrongInputs(t *testing.T) {
	none := func(width int, f impl.Frac) {
		t.Helper()
		for at, call := range []func(int, impl.Frac) (int, bool){impl.FloatDown, impl.FloatUp, impl.FloatNear} {
			if ord, ok := call(width, f); ok || ord != 0 {
				t.Errorf("%d: way %d of %v: %d %v", width, at, f, ord, ok)
			}
		}
		if p, ok := impl.PairFrac(width, f); ok || p != (impl.Pair{}) {
			t.Errorf("%d: PairFrac of %v: %v %v", width, f, p, ok)
		}
	}
	for _, f := range wrongFracs() {
		for _, width := range append(wrongWidths(), bothWidths()...) {
			none(width, f)
		}
	}
	for _, width := range wrongWidths() {
		for _, r := range shortRats() {
			none(width, fracOf(r))
		}
	}
}
