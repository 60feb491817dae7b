package tests

import (
	"math"
	"math/big"
	"slices"
	"testing"

	"loop.example/pinfold/impl"
)

// Promise 18: a shift up is a product, and comes back; bits grow by as many.
func TestShifts(t *testing.T) {
	for _, n := range nats() {
		x := natOf(n)
		for _, k := range []int{0, 1, 2, 7, 15, 16, 17, 31, 32, 33, 64, 100, 2047, 2048, 4079, 4080, 4095, 4096, natBits - n.BitLen(), natBits - n.BitLen() + 1} {
			if k > natBits {
				continue
			}
			up, ok := impl.NatShift(x, k)
			checkFitting(t, "NatShift up", up, ok, new(big.Int).Lsh(n, uint(k)))
			if power := powerOfTwo(k); ok && fits(power) {
				if product, is := impl.NatMul(x, natOf(power)); !is || !slices.Equal(product, up) {
					t.Errorf("%v up by %d is no product", n, k)
				}
			}
			if ok {
				if back, is := impl.NatShift(up, -k); !is || !slices.Equal(back, x) {
					t.Errorf("%v up by %d comes back as %v", n, k, back)
				}
				if len(x) > 0 && impl.NatBits(up) != impl.NatBits(x)+k {
					t.Errorf("%v up by %d has %d bits", n, k, impl.NatBits(up))
				}
			}
			down, ok := impl.NatShift(x, -k)
			checkFitting(t, "NatShift down", down, ok, new(big.Int).Rsh(n, uint(k)))
		}
	}
}

func TestShiftsAtTheEdges(t *testing.T) {
	for _, n := range nats() {
		x := natOf(n)
		for _, k := range []int{math.MinInt, math.MinInt + 1, -1 << 32, -4112, -4098, -4097, 4097, 4098, 4112, 1 << 32, math.MaxInt} {
			if out, ok := impl.NatShift(x, k); ok || len(out) != 0 {
				t.Errorf("%v shifted by %d: %v", n, k, out)
			}
		}
		if out, ok := impl.NatShift(x, -4096); !ok || len(out) != 0 {
			t.Errorf("%v down by 4096: %v, %v", n, out, ok)
		}
		if out, ok := impl.NatShift(x, -n.BitLen()); !ok || len(out) != 0 {
			t.Errorf("%v down to nothing: %v, %v", n, out, ok)
		}
		if out, ok := impl.NatShift(x, 1-n.BitLen()); n.Sign() > 0 && (!ok || !slices.Equal(out, []int{1})) {
			t.Errorf("%v down to its highest bit: %v, %v", n, out, ok)
		}
		if out, ok := impl.NatShift(x, 4096); ok != (n.Sign() == 0) || len(out) != 0 {
			t.Errorf("%v up by 4096: %v, %v", n, out, ok)
		}
	}
}

// Promise 20: the product of two powers of one number is that of the exponents' sum.
func TestPowers(t *testing.T) {
	for _, n := range nats() {
		x := natOf(n)
		var powers [65][]int
		var there [65]bool
		want := big.NewInt(1)
		for at := range powers {
			powers[at], there[at] = impl.NatPow(x, at)
			if want.BitLen() <= natBits {
				checkFitting(t, "NatPow", powers[at], there[at], want)
				want.Mul(want, n)
			} else if there[at] || len(powers[at]) != 0 {
				t.Errorf("%v to the power %d is there", n, at)
			}
		}
		for first := range powers {
			for second := 0; first+second <= 64; second++ {
				if !there[first] || !there[second] {
					continue
				}
				product, ok := impl.NatMul(powers[first], powers[second])
				if ok != there[first+second] || !slices.Equal(product, powers[first+second]) {
					t.Errorf("%v to the powers %d and %d", n, first, second)
				}
			}
		}
	}
}

func TestPowersAtTheEdges(t *testing.T) {
	for _, n := range nats() {
		for _, exponent := range []int{math.MinInt, -64, -1, 65, 66, 128, math.MaxInt} {
			if out, ok := impl.NatPow(natOf(n), exponent); ok || len(out) != 0 {
				t.Errorf("%v to the power %d: %v", n, exponent, out)
			}
		}
		if out, ok := impl.NatPow(natOf(n), 0); !ok || !slices.Equal(out, []int{1}) {
			t.Errorf("%v to the power 0: %v, %v", n, out, ok)
		}
	}
	if out, ok := impl.NatPow(nil, 64); !ok || len(out) != 0 {
		t.Error("0 to the power 64", out, ok)
	}
	if out, ok := impl.NatPow([]int{1}, 64); !ok || !slices.Equal(out, []int{1}) {
		t.Error("1 to the power 64", out, ok)
	}
	for exponent := 1; exponent <= 64; exponent++ {
		most := mostWithPower(exponent)
		power, ok := impl.NatPow(natOf(most), exponent)
		if !ok || len(power) != 256 || !isNat(power, new(big.Int).Exp(most, big.NewInt(int64(exponent)), nil)) {
			t.Errorf("the greatest number with a power %d: %v, %d digits", exponent, ok, len(power))
		}
		if fits(moved(most, 1)) {
			if out, ok := impl.NatPow(natOf(moved(most, 1)), exponent); ok || len(out) != 0 {
				t.Errorf("the least number without a power %d", exponent)
			}
		}
	}
}

// mostWithPower is the greatest number whose power has at most 256 digits, found bit by bit.
func mostWithPower(exponent int) *big.Int {
	most := new(big.Int)
	for bit := natBits / exponent; bit >= 0; bit-- {
		if next := new(big.Int).SetBit(most, bit, 1); fits(next) && fits(new(big.Int).Exp(next, big.NewInt(int64(exponent)), nil)) {
			most = next
		}
	}
	return most
}

// Promise 17: the square of the root is not above the number, that of one more is.
func checkRoot(t *testing.T, n *big.Int) {
	t.Helper()
	root, exact, ok := impl.NatRoot(natOf(n))
	want := new(big.Int).Sqrt(n)
	square := new(big.Int).Mul(want, want)
	if !ok || !isNat(root, want) || exact != (square.Cmp(n) == 0) {
		t.Errorf("NatRoot %v: %v, %v, %v", n, root, exact, ok)
		return
	}
	made, _ := impl.NatMul(root, root)
	if order := impl.NatCmp(made, natOf(n)); order > 0 || order == 0 != exact {
		t.Errorf("NatRoot %v: the square is %v", n, made)
	}
	more, _ := impl.NatAdd(root, []int{1})
	if next, is := impl.NatMul(more, more); is && impl.NatCmp(next, natOf(n)) != 1 {
		t.Errorf("NatRoot %v: the square of one more is %v", n, next)
	}
}

func TestRoots(t *testing.T) {
	for n := range int64(1100) {
		checkRoot(t, big.NewInt(n))
	}
	for _, n := range nats() {
		checkRoot(t, n)
		square := new(big.Int).Mul(n, n)
		for by := int64(-1); by <= 1; by++ {
			if beside := moved(square, by); beside.Sign() >= 0 && fits(beside) {
				checkRoot(t, beside)
			}
		}
	}
	most := moved(powerOfTwo(2048), -1)
	for by := int64(-1); by <= 1; by++ {
		checkRoot(t, moved(new(big.Int).Mul(most, most), by))
	}
	if root, exact, ok := impl.NatRoot(nil); len(root) != 0 || !exact || !ok {
		t.Error("the root of 0", root, exact, ok)
	}
}
