package tests

import (
	"math"
	"math/big"
	"testing"

	"loop.example/pinfold/impl"
)

// powerRat is a power of a fraction.
func powerRat(r *big.Rat, n int) *big.Rat {
	exponent := big.NewInt(int64(n))
	return rat(new(big.Int).Exp(r.Num(), exponent, nil), new(big.Int).Exp(r.Denom(), exponent, nil))
}

func TestPowersOfFractions(t *testing.T) {
	for _, r := range rats() {
		for _, n := range []int{0, 1, 2, 3, 4, 5, 7, 8, 31, 32, 63, 64} {
			f, ok := impl.FracPow(fracOf(r), n)
			checkFrac(t, "FracPow", f, ok, powerRat(r, n))
		}
		for _, n := range []int{math.MinInt, math.MinInt + 1, -64, -2, -1, 65, 66, 128, math.MaxInt} {
			f, ok := impl.FracPow(fracOf(r), n)
			checkNoFrac(t, "FracPow", f, ok)
		}
	}
	for n := range 65 {
		want := 0
		if n == 0 {
			want = 1
		}
		if f, ok := impl.FracPow(impl.FracInt(0), n); !ok || !sameFrac(f, impl.FracInt(want)) {
			t.Errorf("0 to the power %d: %v, %v", n, f, ok)
		}
	}
}

func TestPowersOfFractionsAtTheLimit(t *testing.T) {
	for _, n := range []int{1, 2, 3, 16, 63, 64} {
		most := mostWithPower(n)
		for _, row := range []struct {
			r     *big.Rat
			there bool
		}{
			{wholeRat(most), true}, {rat(big.NewInt(1), most), true}, {rat(most, moved(most, -1)), true}, {rat(moved(most, -1), most), true},
			{wholeRat(moved(most, 1)), false}, {rat(big.NewInt(1), moved(most, 1)), false}, {rat(most, moved(most, 1)), false}, {rat(moved(most, 1), most), false},
		} {
			if !fitsRat(row.r) {
				continue
			}
			f, ok := impl.FracPow(fracOf(row.r), n)
			checkFrac(t, "FracPow", f, ok, powerRat(row.r, n))
			if ok != row.there {
				t.Errorf("power %d: %v", n, ok)
			}
			f, ok = impl.FracPow(fracOf(negRat(row.r)), n)
			checkFrac(t, "FracPow", f, ok, powerRat(negRat(row.r), n))
		}
	}
}

// Promise 24, its first part: the root of a square is the fraction without its sign; what has a root is its square.
func TestRootsOfFractions(t *testing.T) {
	for _, r := range rats() {
		square, ok := impl.FracMul(fracOf(r), fracOf(r))
		if ok {
			root, is := impl.FracRoot(square)
			checkFrac(t, "FracRoot of a square", root, is, new(big.Rat).Abs(r))
			below, _ := impl.FracNeg(square)
			if root, is = impl.FracRoot(below); is != (r.Sign() == 0) || !is && !isNoFrac(root) {
				t.Errorf("the root of -%v: %v, %v", square, root, is)
			}
		}
		root, is := impl.FracRoot(fracOf(r))
		if !is {
			checkNoFrac(t, "FracRoot", root, is)
		} else if again, _ := impl.FracMul(root, root); impl.FracSign(root) < 0 || !isFrac(again, r) {
			t.Errorf("the root of %v: %v", r, root)
		}
	}
}

// isSquare says whether a number from 0 on is a square.
func isSquare(n *big.Int) bool {
	root := new(big.Int).Sqrt(n)
	return root.Mul(root, root).Cmp(n) == 0
}

// Both numbers must be squares, above the stroke and below it.
func TestRootsOfSmallFractions(t *testing.T) {
	for top := int64(-40); top < 150; top++ {
		for bottom := int64(1); bottom < 60; bottom++ {
			r := smallRat(top, bottom)
			root, ok := impl.FracRoot(fracOf(r))
			if ok != (top >= 0 && isSquare(r.Num()) && isSquare(r.Denom())) {
				t.Errorf("the root of %v: %v", r, ok)
			}
			if ok {
				checkFrac(t, "FracRoot", root, ok, rat(new(big.Int).Sqrt(r.Num()), new(big.Int).Sqrt(r.Denom())))
			}
		}
	}
	long, next := moved(powerOfTwo(2048), -1), moved(powerOfTwo(2048), -2)
	square, other := new(big.Int).Mul(long, long), new(big.Int).Mul(next, next)
	for _, row := range []struct {
		r     *big.Rat
		there bool
	}{
		{rat(square, other), true}, {rat(moved(square, 1), other), false}, {rat(square, moved(other, 1)), false}, {rat(moved(square, -1), other), false},
		{smallRat(2, 1), false}, {smallRat(1, 2), false}, {smallRat(8, 2), true}, {smallRat(0, 1), true}, {smallRat(-4, 1), false}, {smallRat(-4, 9), false},
	} {
		if _, ok := impl.FracRoot(fracOf(row.r)); ok != row.there {
			t.Errorf("the root of %v: %v", row.r, ok)
		}
	}
}

// Promise 24, its second part: FracFloor is at most the fraction, and one more is above it.
func checkFloor(t *testing.T, r *big.Rat) {
	t.Helper()
	// The quotient of Div goes down, as long as the divisor is above 0.
	want := wholeRat(new(big.Int).Div(r.Num(), r.Denom()))
	f, ok := impl.FracFloor(fracOf(r))
	checkFrac(t, "FracFloor", f, ok, want)
	if impl.FracCmp(f, fracOf(r)) > 0 {
		t.Errorf("FracFloor %v: %v is above it", r, f)
	}
	if more, is := impl.FracAdd(f, impl.FracInt(1)); is && impl.FracCmp(more, fracOf(r)) != 1 {
		t.Errorf("FracFloor %v: %v is not above it", r, more)
	}
}

func TestFloors(t *testing.T) {
	for _, r := range rats() {
		checkFloor(t, r)
		checkFloor(t, negRat(r))
	}
	for top := int64(-50); top <= 50; top++ {
		for bottom := int64(1); bottom < 12; bottom++ {
			checkFloor(t, smallRat(top, bottom))
		}
	}
	most := mostNat()
	for _, r := range []*big.Rat{wholeRat(most), rat(most, big.NewInt(2)), rat(moved(most, -1), most), rat(most, moved(most, -1)), rat(big.NewInt(1), most)} {
		checkFloor(t, r)
		checkFloor(t, negRat(r))
	}
}
