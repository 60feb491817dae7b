package tests

import (
	"math/big"
	"testing"

	"loop.example/pinfold/impl"
)

// checkFour holds sum, difference, product and quotient of two fractions against math/big.
func checkFour(t *testing.T, a *big.Rat, b *big.Rat) {
	t.Helper()
	x, y := fracOf(a), fracOf(b)
	f, ok := impl.FracAdd(x, y)
	checkFrac(t, "FracAdd", f, ok, new(big.Rat).Add(a, b))
	f, ok = impl.FracSub(x, y)
	checkFrac(t, "FracSub", f, ok, new(big.Rat).Sub(a, b))
	f, ok = impl.FracMul(x, y)
	checkFrac(t, "FracMul", f, ok, new(big.Rat).Mul(a, b))
	f, ok = impl.FracDiv(x, y)
	if b.Sign() == 0 {
		checkNoFrac(t, "FracDiv by 0", f, ok)
	} else {
		checkFrac(t, "FracDiv", f, ok, new(big.Rat).Quo(a, b))
	}
}

// Promise 14, its third part: what is added comes off, what is multiplied is divided off.
func checkComesOff(t *testing.T, a *big.Rat, b *big.Rat) {
	t.Helper()
	x, y := fracOf(a), fracOf(b)
	if sum, ok := impl.FracAdd(x, y); ok {
		if back, is := impl.FracSub(sum, y); !is || !sameFrac(back, x) {
			t.Errorf("%v + %v less that: %v, %v", a, b, back, is)
		}
	}
	if product, ok := impl.FracMul(x, y); ok && b.Sign() != 0 {
		if back, is := impl.FracDiv(product, y); !is || !sameFrac(back, x) {
			t.Errorf("%v * %v by that: %v, %v", a, b, back, is)
		}
	}
}

// Promise 14, its first part: neither sums nor products hang on the order of the two.
func checkEitherOrder(t *testing.T, a *big.Rat, b *big.Rat) {
	t.Helper()
	x, y := fracOf(a), fracOf(b)
	one, isOne := impl.FracAdd(x, y)
	two, isTwo := impl.FracAdd(y, x)
	if isOne != isTwo || !sameFrac(one, two) {
		t.Errorf("%v + %v: %v and %v", a, b, one, two)
	}
	one, isOne = impl.FracMul(x, y)
	two, isTwo = impl.FracMul(y, x)
	if isOne != isTwo || !sameFrac(one, two) {
		t.Errorf("%v * %v: %v and %v", a, b, one, two)
	}
}

func TestSumsAndProductsOfFractions(t *testing.T) {
	for _, a := range rats() {
		for _, b := range rats() {
			checkFour(t, a, b)
		}
	}
}

func TestWhatIsAddedComesOff(t *testing.T) {
	for _, a := range rats() {
		for _, b := range shortRats() {
			checkComesOff(t, a, b)
			checkComesOff(t, b, a)
			checkEitherOrder(t, a, b)
		}
	}
}

// Promise 14, its second part: however three are put together; products go over sums.
func checkThree(t *testing.T, a *big.Rat, b *big.Rat, c *big.Rat) {
	t.Helper()
	x, y, z := fracOf(a), fracOf(b), fracOf(c)
	must := func(f impl.Frac, ok bool) impl.Frac {
		if !ok {
			t.Fatalf("%v, %v, %v: nothing", a, b, c)
		}
		return f
	}
	left := must(impl.FracAdd(must(impl.FracAdd(x, y)), z))
	right := must(impl.FracAdd(x, must(impl.FracAdd(y, z))))
	if !sameFrac(left, right) {
		t.Errorf("%v + %v + %v: %v and %v", a, b, c, left, right)
	}
	left = must(impl.FracMul(must(impl.FracMul(x, y)), z))
	right = must(impl.FracMul(x, must(impl.FracMul(y, z))))
	if !sameFrac(left, right) {
		t.Errorf("%v * %v * %v: %v and %v", a, b, c, left, right)
	}
	left = must(impl.FracMul(x, must(impl.FracAdd(y, z))))
	right = must(impl.FracAdd(must(impl.FracMul(x, y)), must(impl.FracMul(x, z))))
	if !sameFrac(left, right) {
		t.Errorf("%v * (%v + %v): %v and %v", a, b, c, left, right)
	}
}

func TestThreeFractions(t *testing.T) {
	all := shortRats()
	s := spread{31}
	for _, count := range []int{3, 9, 30} {
		all = append(all, rat(someNat(&s, count), someNat(&s, count/2)))
	}
	for _, a := range all {
		for _, b := range all {
			checkThree(t, a, b, all[s.next()%uint64(len(all))])
			checkThree(t, a, b, a)
			checkThree(t, a, b, negRat(b))
		}
	}
}

// An answer has just 256 digits in lowest terms, or one more; ahead of them more come up.
func TestFourAtTheLimit(t *testing.T) {
	most, half := mostNat(), powerOfTwo(2048)
	below, above := moved(half, -1), moved(half, 1)
	thirds := func(n *big.Int) *big.Rat { return rat(n, big.NewInt(3)) }
	type call = func(impl.Frac, impl.Frac) (impl.Frac, bool)
	for at, row := range []struct {
		call                 call
		a, b                 *big.Rat
		there                bool
		topCount, lowerCount int
	}{
		{impl.FracAdd, wholeRat(moved(most, -1)), smallRat(1, 1), true, 256, 1},
		{impl.FracAdd, wholeRat(most), smallRat(1, 1), false, 0, 0},
		{impl.FracAdd, thirds(moved(most, -2)), thirds(moved(most, -1)), true, 256, 1},
		{impl.FracAdd, thirds(moved(most, -1)), thirds(moved(most, -1)), false, 0, 0},
		{impl.FracAdd, rat(big.NewInt(1), below), rat(big.NewInt(1), above), true, 129, 256},
		{impl.FracAdd, rat(big.NewInt(1), half), rat(big.NewInt(1), above), false, 0, 0},
		{impl.FracAdd, rat(big.NewInt(1), most), rat(big.NewInt(2), most), true, 1, 256},
		{impl.FracAdd, rat(moved(most, -1), most), rat(big.NewInt(1), most), true, 1, 1},
		{impl.FracAdd, rat(moved(most, -1), most), rat(negRat(wholeRat(moved(most, -1))).Num(), most), true, 0, 1},
		{impl.FracSub, wholeRat(most), smallRat(1, 1), true, 256, 1},
		{impl.FracSub, wholeRat(negRat(wholeRat(most)).Num()), smallRat(1, 1), false, 0, 0},
		{impl.FracSub, wholeRat(moved(most, -1)), smallRat(-1, 1), true, 256, 1},
		{impl.FracSub, rat(big.NewInt(1), below), rat(big.NewInt(1), above), true, 1, 256},
		{impl.FracSub, rat(big.NewInt(1), half), rat(big.NewInt(1), above), false, 0, 0},
		{impl.FracSub, rat(most, moved(most, -1)), rat(most, moved(most, -1)), true, 0, 1},
		{impl.FracMul, wholeRat(below), wholeRat(above), true, 256, 1},
		{impl.FracMul, wholeRat(half), wholeRat(half), false, 0, 0},
		{impl.FracMul, rat(big.NewInt(1), below), rat(big.NewInt(1), above), true, 1, 256},
		{impl.FracMul, rat(big.NewInt(1), half), rat(big.NewInt(1), half), false, 0, 0},
		{impl.FracMul, rat(most, moved(most, -1)), rat(moved(most, -1), most), true, 1, 1},
		{impl.FracMul, rat(most, powerOfTwo(4095)), wholeRat(powerOfTwo(4095)), true, 256, 1},
		{impl.FracMul, rat(most, powerOfTwo(4094)), wholeRat(powerOfTwo(4095)), false, 0, 0},
		{impl.FracDiv, wholeRat(below), rat(big.NewInt(1), above), true, 256, 1},
		{impl.FracDiv, wholeRat(half), rat(big.NewInt(1), half), false, 0, 0},
		{impl.FracDiv, rat(big.NewInt(1), below), wholeRat(above), true, 1, 256},
		{impl.FracDiv, rat(big.NewInt(1), half), wholeRat(half), false, 0, 0},
		{impl.FracDiv, rat(most, moved(most, -1)), rat(most, moved(most, -1)), true, 1, 1},
		{impl.FracDiv, wholeRat(most), wholeRat(moved(most, -1)), true, 256, 256},
	} {
		f, ok := row.call(fracOf(row.a), fracOf(row.b))
		if ok != row.there || len(f.Top) != row.topCount || len(f.Bottom) != row.lowerCount {
			t.Errorf("row %d: %v, %d and %d digits", at, ok, len(f.Top), len(f.Bottom))
		}
		checkFour(t, row.a, row.b)
		checkFour(t, row.b, row.a)
	}
}

func TestNothingIsDividedByNought(t *testing.T) {
	for _, r := range rats() {
		f, ok := impl.FracDiv(fracOf(r), impl.FracInt(0))
		checkNoFrac(t, "by 0", f, ok)
		f, ok = impl.FracMul(fracOf(r), impl.FracInt(0))
		checkFrac(t, "times 0", f, ok, new(big.Rat))
	}
}

func TestSignsOfFractions(t *testing.T) {
	for _, r := range rats() {
		f, ok := impl.FracNeg(fracOf(r))
		checkFrac(t, "FracNeg", f, ok, negRat(r))
		if back, is := impl.FracNeg(f); !is || !isFrac(back, r) {
			t.Errorf("- - %v: %v, %v", r, back, is)
		}
		f, ok = impl.FracAbs(fracOf(r))
		checkFrac(t, "FracAbs", f, ok, new(big.Rat).Abs(r))
	}
}
