package tests

import (
	"math"
	"math/big"
	"slices"
	"testing"

	"loop.example/pinfold/impl"
)

func TestFractionsThatAreOk(t *testing.T) {
	for _, r := range rats() {
		if !impl.FracOk(fracOf(r)) {
			t.Errorf("%v is not ok", r)
		}
	}
	for _, wrong := range wrongFracs() {
		if impl.FracOk(wrong) {
			t.Errorf("%v is ok", wrong)
		}
	}
	if !impl.FracOk(impl.Frac{Bottom: []int{1}}) || !impl.FracOk(impl.Frac{Top: []int{}, Bottom: []int{1}}) {
		t.Error("0 is 0 by 1")
	}
	for top := range 40 {
		for bottom := range 40 {
			f := impl.Frac{Top: impl.NatOf(uint64(top)), Bottom: impl.NatOf(uint64(bottom))}
			divisor := new(big.Int).GCD(nil, nil, big.NewInt(int64(top)), big.NewInt(int64(bottom)))
			want := bottom > 0 && divisor.Cmp(big.NewInt(1)) == 0
			if impl.FracOk(f) != want {
				t.Errorf("%d by %d", top, bottom)
			}
			f.Below = true
			if impl.FracOk(f) != (want && top > 0) {
				t.Errorf("-%d by %d", top, bottom)
			}
		}
	}
}

// What is not ok has one answer, to each function and in each place.
func TestWrongFractions(t *testing.T) {
	for _, wrong := range wrongFracs() {
		checkWrongFrac(t, wrong)
		for _, good := range []impl.Frac{{Bottom: []int{1}}, {Top: []int{1}, Bottom: []int{1}}, {Below: true, Top: []int{3}, Bottom: []int{2}}, fracOf(wholeRat(mostNat())), wrong} {
			checkWrongFracOfTwo(t, wrong, good)
			checkWrongFracOfTwo(t, good, wrong)
		}
	}
}

func checkWrongFrac(t *testing.T, wrong impl.Frac) {
	t.Helper()
	if sign := impl.FracSign(wrong); sign != 0 {
		t.Errorf("FracSign %v: %d", wrong, sign)
	}
	if text := impl.FracText(wrong); text != "" {
		t.Errorf("FracText %v: %q", wrong, text)
	}
	if text, ok := impl.DecText(wrong); text != "" || ok {
		t.Errorf("DecText %v: %q, %v", wrong, text, ok)
	}
	for name, call := range map[string]func(impl.Frac) (impl.Frac, bool){"FracNeg": impl.FracNeg, "FracAbs": impl.FracAbs, "FracRoot": impl.FracRoot, "FracFloor": impl.FracFloor} {
		f, ok := call(wrong)
		checkNoFrac(t, name, f, ok)
	}
	for _, n := range []int{math.MinInt, -1, 0, 1, 2, 64, 65, math.MaxInt} {
		f, ok := impl.FracPow(wrong, n)
		checkNoFrac(t, "FracPow", f, ok)
	}
}

func checkWrongFracOfTwo(t *testing.T, a impl.Frac, b impl.Frac) {
	t.Helper()
	if order := impl.FracCmp(a, b); order != 2 {
		t.Errorf("FracCmp %v, %v: %d", a, b, order)
	}
	for name, call := range map[string]func(impl.Frac, impl.Frac) (impl.Frac, bool){"FracAdd": impl.FracAdd, "FracSub": impl.FracSub, "FracMul": impl.FracMul, "FracDiv": impl.FracDiv} {
		f, ok := call(a, b)
		checkNoFrac(t, name, f, ok)
	}
}

// checkFracOf holds FracOf against math/big; against nothing, if one of the two has too many digits to be a number, whatever it were in lowest terms.
func checkFracOf(t *testing.T, below bool, top *big.Int, bottom *big.Int) {
	t.Helper()
	f, ok := impl.FracOf(below, natOf(top), natOf(bottom))
	if !fits(top) || !fits(bottom) {
		checkNoFrac(t, "FracOf, too many digits", f, ok)
		return
	}
	want := rat(top, bottom)
	if below {
		want.Neg(want)
	}
	checkFrac(t, "FracOf", f, ok, want)
	if ok && !impl.FracOk(f) {
		t.Errorf("FracOf %v: %v is not ok", want, f)
	}
}

// Promise 22: a fraction stays the same if its top and bottom are multiplied by one number that is not 0, as long as both are numbers then.
func TestFractionsMultipliedAboveAndBelow(t *testing.T) {
	factors := []*big.Int{big.NewInt(1), big.NewInt(2), big.NewInt(3), big.NewInt(65535), big.NewInt(65536), big.NewInt(30030), powerOfTwo(64), moved(powerOfTwo(129), -1), powerOfTwo(2048), moved(powerOfTwo(4000), 1), mostNat()}
	for _, r := range rats() {
		top := new(big.Int).Abs(r.Num())
		plain, ok := impl.FracOf(r.Sign() < 0, natOf(top), natOf(r.Denom()))
		if !ok || !isFrac(plain, r) {
			t.Errorf("FracOf %v: %v, %v", r, plain, ok)
		}
		for _, factor := range factors {
			more, less := new(big.Int).Mul(top, factor), new(big.Int).Mul(r.Denom(), factor)
			f, ok := impl.FracOf(r.Sign() < 0, natOf(more), natOf(less))
			if !fits(more) || !fits(less) {
				checkNoFrac(t, "FracOf, too many digits", f, ok)
			} else if !ok || !sameFrac(f, plain) {
				t.Errorf("%v, both times %v: %v, %v", r, factor, f, ok)
			}
		}
	}
}

func TestFractionsOfSmallNumbers(t *testing.T) {
	for top := range int64(60) {
		for bottom := int64(1); bottom < 60; bottom++ {
			checkFracOf(t, false, big.NewInt(top), big.NewInt(bottom))
			checkFracOf(t, true, big.NewInt(top), big.NewInt(bottom))
		}
	}
}

// 0 has no sign and a bottom of 1; nothing has a bottom of 0.
func TestFractionsOfNought(t *testing.T) {
	for _, bottom := range nats() {
		for _, below := range []bool{false, true} {
			f, ok := impl.FracOf(below, nil, natOf(bottom))
			if bottom.Sign() == 0 {
				checkNoFrac(t, "0 by 0", f, ok)
			} else if !ok || f.Below || len(f.Top) != 0 || !slices.Equal(f.Bottom, []int{1}) {
				t.Errorf("0 by %v: %v, %v", bottom, f, ok)
			}
			f, ok = impl.FracOf(below, natOf(bottom), []int{})
			checkNoFrac(t, "by 0", f, ok)
		}
	}
}

// What is handed in is asked for its digits as it stands: a list of one too many is no number, also where lowest terms, or a top 0, would make it short.
func TestFractionsAtTheLimit(t *testing.T) {
	most, over, three := mostNat(), powerOfTwo(natBits), big.NewInt(3)
	for _, row := range []struct {
		top, bottom *big.Int
		there       bool
	}{
		{most, big.NewInt(1), true}, {big.NewInt(1), most, true}, {most, moved(most, -1), true}, {most, most, true}, {most, three, true}, {three, most, true}, {new(big.Int), most, true},
		{over, big.NewInt(1), false}, {big.NewInt(1), over, false}, {over, most, false}, {most, over, false},
		{over, big.NewInt(2), false}, {big.NewInt(2), over, false}, {over, over, false}, {over, big.NewInt(6), false}, {over, three, false},
		{new(big.Int).Mul(most, three), three, false}, {three, new(big.Int).Mul(most, three), false}, {new(big.Int).Mul(most, most), most, false}, {most, new(big.Int).Mul(most, most), false},
		{new(big.Int).Mul(over, over), new(big.Int).Mul(over, powerOfTwo(4095)), false}, {new(big.Int).Mul(most, three), new(big.Int).Mul(most, three), false},
		{new(big.Int), over, false}, {new(big.Int), moved(over, 1), false}, {over, new(big.Int), false},
	} {
		for _, below := range []bool{false, true} {
			checkFracOf(t, below, row.top, row.bottom)
			if _, ok := impl.FracOf(below, natOf(row.top), natOf(row.bottom)); ok != row.there {
				t.Errorf("%v by %v: %v", row.top, row.bottom, ok)
			}
		}
	}
}

// Lists that are no numbers make no fraction, in either place.
func TestFractionsOfWrongLists(t *testing.T) {
	for _, wrong := range wrongNats() {
		for _, good := range [][]int{nil, {1}, {2}, {0, 1}, natOf(mostNat()), wrong} {
			for _, below := range []bool{false, true} {
				f, ok := impl.FracOf(below, wrong, good)
				checkNoFrac(t, "FracOf, a wrong top", f, ok)
				f, ok = impl.FracOf(below, good, wrong)
				checkNoFrac(t, "FracOf, a wrong bottom", f, ok)
			}
		}
	}
}

func TestFractionsOfInts(t *testing.T) {
	ints := []int{math.MinInt, math.MinInt + 1, -1 << 48, -1<<32 - 1, -65537, -65536, -65535, -2, -1, 0, 1, 2, 65535, 65536, 65537, 1 << 32, 1 << 62, math.MaxInt - 1, math.MaxInt}
	for _, n := range ints {
		f := impl.FracInt(n)
		if !isFrac(f, wholeRat(big.NewInt(int64(n)))) || !impl.FracOk(f) {
			t.Errorf("FracInt %d: %v", n, f)
		}
	}
}

// Promise 23: fractions are compared as the sign of their difference.
func checkOrder(t *testing.T, a *big.Rat, b *big.Rat) {
	t.Helper()
	x, y := fracOf(a), fracOf(b)
	order := impl.FracCmp(x, y)
	if order != a.Cmp(b) {
		t.Errorf("FracCmp %v, %v: %d", a, b, order)
	}
	if difference, ok := impl.FracSub(x, y); ok && impl.FracSign(difference) != order {
		t.Errorf("%v - %v has the sign %d", a, b, impl.FracSign(difference))
	}
}

func TestOrderOfFractions(t *testing.T) {
	for _, a := range rats() {
		if sign := impl.FracSign(fracOf(a)); sign != a.Sign() {
			t.Errorf("FracSign %v: %d", a, sign)
		}
		for _, b := range rats() {
			checkOrder(t, a, b)
		}
	}
}

// The order goes through.
func TestOrderOfFractionsGoesThrough(t *testing.T) {
	all := shortRats()
	for _, a := range all {
		for _, b := range all {
			first := impl.FracCmp(fracOf(a), fracOf(b))
			if back := impl.FracCmp(fracOf(b), fracOf(a)); back != -first {
				t.Errorf("%v against %v: %d, and back %d", a, b, first, back)
			}
			for _, c := range all {
				second := impl.FracCmp(fracOf(b), fracOf(c))
				if through := impl.FracCmp(fracOf(a), fracOf(c)); first == second && through != first || first == 0 && through != second {
					t.Errorf("%v, %v, %v: %d, %d, but %d", a, b, c, first, second, through)
				}
			}
		}
	}
}

// Comparisons are there even where the difference is not: it would have twice as many digits.
func TestOrderOfLongFractions(t *testing.T) {
	most := mostNat()
	long := []*big.Rat{
		rat(most, moved(most, -1)), rat(moved(most, -1), moved(most, -2)), rat(moved(most, -2), moved(most, -3)), rat(moved(most, -1), most), rat(moved(most, -2), moved(most, -1)),
		wholeRat(most), wholeRat(moved(most, -1)), rat(big.NewInt(1), most), rat(big.NewInt(1), moved(most, -1)), new(big.Rat), smallRat(1, 1),
		rat(powerOfTwo(4095), most), rat(powerOfTwo(4095), moved(most, -2)), rat(most, powerOfTwo(4095)),
	}
	for _, a := range long {
		for _, b := range long {
			checkOrder(t, a, b)
			checkOrder(t, negRat(a), b)
			checkOrder(t, negRat(a), negRat(b))
		}
	}
}
