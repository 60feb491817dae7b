package tests

import (
	"math"
	"math/big"
	"slices"
	"testing"

	"loop.example/pinfold/impl"
)

func TestLimitsOfNumbers(t *testing.T) {
	if impl.NatBase != 65536 || impl.NatMaxDigits != 256 || impl.NatMaxText != 1300 || impl.NatMaxPower != 64 {
		t.Error("limits")
	}
}

func TestNumbersThatAreOk(t *testing.T) {
	for _, n := range nats() {
		if digits := natOf(n); !impl.NatOk(digits) {
			t.Errorf("%v is no number", digits)
		}
	}
	for _, wrong := range wrongNats() {
		if impl.NatOk(wrong) {
			t.Errorf("%v is a number", wrong)
		}
	}
	if !impl.NatOk(nil) || !impl.NatOk([]int{}) {
		t.Error("0 has no digits")
	}
	for count := 1; count <= 300; count++ {
		digits := slices.Repeat([]int{65535}, count)
		if impl.NatOk(digits) != (count <= 256) {
			t.Errorf("%d digits", count)
		}
		digits[count-1] = 0
		if impl.NatOk(digits) {
			t.Errorf("%d digits, the last one 0", count)
		}
	}
	for at := range 256 {
		for digit, ok := range map[int]bool{0: at < 255, 1: true, 65535: true, 65536: false, -1: false} {
			digits := slices.Repeat([]int{1}, 256)
			digits[at] = digit
			if impl.NatOk(digits) != ok {
				t.Errorf("digit %d at %d", digit, at)
			}
		}
	}
}

// What is no number has one answer, to each function and in each place.
func TestWrongNumbers(t *testing.T) {
	for _, wrong := range wrongNats() {
		checkWrongAlone(t, wrong)
		for _, good := range [][]int{nil, {1}, {2}, {0, 1}, {5, 6, 7}, natOf(moved(powerOfTwo(natBits), -1)), wrong} {
			checkWrongOfTwo(t, wrong, good)
			checkWrongOfTwo(t, good, wrong)
		}
	}
}

func checkWrongAlone(t *testing.T, wrong []int) {
	t.Helper()
	if n, ok := impl.NatSmall(wrong); n != 0 || ok {
		t.Errorf("NatSmall %v: %d, %v", wrong, n, ok)
	}
	if n := impl.NatBits(wrong); n != -1 {
		t.Errorf("NatBits %v: %d", wrong, n)
	}
	if text := impl.NatText(wrong); text != "" {
		t.Errorf("NatText %v: %q", wrong, text)
	}
	for _, k := range []int{math.MinInt, -4097, -4096, -17, -16, -1, 0, 1, 16, 4096, 4097, math.MaxInt} {
		if out, ok := impl.NatShift(wrong, k); len(out) != 0 || ok {
			t.Errorf("NatShift %v by %d: %v, %v", wrong, k, out, ok)
		}
	}
	for _, n := range []int{math.MinInt, -1, 0, 1, 2, 64, 65, math.MaxInt} {
		if out, ok := impl.NatPow(wrong, n); len(out) != 0 || ok {
			t.Errorf("NatPow %v to the %d: %v, %v", wrong, n, out, ok)
		}
	}
	if out, exact, ok := impl.NatRoot(wrong); len(out) != 0 || exact || ok {
		t.Errorf("NatRoot %v: %v, %v, %v", wrong, out, exact, ok)
	}
}

func checkWrongOfTwo(t *testing.T, a []int, b []int) {
	t.Helper()
	if n := impl.NatCmp(a, b); n != 2 {
		t.Errorf("NatCmp %v, %v: %d", a, b, n)
	}
	if out, ok := impl.NatAdd(a, b); len(out) != 0 || ok {
		t.Errorf("NatAdd %v, %v: %v, %v", a, b, out, ok)
	}
	if out, ok := impl.NatSub(a, b); len(out) != 0 || ok {
		t.Errorf("NatSub %v, %v: %v, %v", a, b, out, ok)
	}
	if out, ok := impl.NatMul(a, b); len(out) != 0 || ok {
		t.Errorf("NatMul %v, %v: %v, %v", a, b, out, ok)
	}
	if quotient, rest, ok := impl.NatDiv(a, b); len(quotient) != 0 || len(rest) != 0 || ok {
		t.Errorf("NatDiv %v, %v: %v, %v, %v", a, b, quotient, rest, ok)
	}
	if out, ok := impl.NatGcd(a, b); len(out) != 0 || ok {
		t.Errorf("NatGcd %v, %v: %v, %v", a, b, out, ok)
	}
}

// Promise 21: numbers below 2^64 are reckoned with as such.
func TestNumbersOf64Bits(t *testing.T) {
	small := []uint64{0, 1, 2, 3, 9, 10, 255, 256, 65535, 65536, 65537, 1<<32 - 1, 1 << 32, 1<<32 + 1, 1<<48 - 1, 1 << 48, 1 << 63, math.MaxUint64 - 1, math.MaxUint64}
	s := spread{9}
	for range 40 {
		n := s.next()
		small = append(small, n, n>>16, n>>32, n>>40, n>>52)
	}
	for _, a := range small {
		digits := impl.NatOf(a)
		if !isNat(digits, new(big.Int).SetUint64(a)) {
			t.Errorf("NatOf %d: %v", a, digits)
		}
		if n, ok := impl.NatSmall(digits); n != a || !ok {
			t.Errorf("NatSmall %d: %d, %v", a, n, ok)
		}
		for _, b := range small {
			checkSmallPair(t, a, b)
		}
	}
}

func checkSmallPair(t *testing.T, a uint64, b uint64) {
	t.Helper()
	x, y := impl.NatOf(a), impl.NatOf(b)
	if order := impl.NatCmp(x, y); order == 0 != (a == b) || order < 0 != (a < b) || order < -1 || order > 1 {
		t.Errorf("NatCmp %d, %d: %d", a, b, order)
	}
	sum, ok := impl.NatAdd(x, y)
	if n, small := impl.NatSmall(sum); !ok || small != (a+b >= a) || small && n != a+b {
		t.Errorf("%d + %d: %v, %v", a, b, sum, ok)
	}
	difference, ok := impl.NatSub(x, y)
	if n, small := impl.NatSmall(difference); ok != (a >= b) || ok && (!small || n != a-b) || !ok && len(difference) != 0 {
		t.Errorf("%d - %d: %v, %v", a, b, difference, ok)
	}
	product, ok := impl.NatMul(x, y)
	if n, small := impl.NatSmall(product); !ok || small != (a == 0 || a*b/a == b) || small && n != a*b {
		t.Errorf("%d * %d: %v, %v", a, b, product, ok)
	}
	quotient, rest, ok := impl.NatDiv(x, y)
	if b == 0 {
		if ok || len(quotient) != 0 || len(rest) != 0 {
			t.Errorf("%d / 0: %v, %v", a, quotient, rest)
		}
		return
	}
	q, _ := impl.NatSmall(quotient)
	r, _ := impl.NatSmall(rest)
	if !ok || q != a/b || r != a%b {
		t.Errorf("%d / %d: %v, %v, %v", a, b, quotient, rest, ok)
	}
}

func TestNumbersFrom64BitsOn(t *testing.T) {
	for _, n := range nats() {
		small, ok := impl.NatSmall(natOf(n))
		if ok != n.IsUint64() || ok && small != n.Uint64() || !ok && small != 0 {
			t.Errorf("NatSmall %v: %d, %v", n, small, ok)
		}
		if count := impl.NatBits(natOf(n)); count != n.BitLen() {
			t.Errorf("NatBits %v: %d", n, count)
		}
		for _, other := range nats() {
			if order := impl.NatCmp(natOf(n), natOf(other)); order != n.Cmp(other) {
				t.Errorf("NatCmp %v, %v: %d", n, other, order)
			}
		}
	}
}

// checkFitting holds an answer against the number that it should be, or nothing, if that has too many digits.
func checkFitting(t *testing.T, what string, out []int, ok bool, want *big.Int) {
	t.Helper()
	if ok != fits(want) {
		t.Errorf("%s: %v, but it has %d bits", what, ok, want.BitLen())
	}
	if ok && !isNat(out, want) || !ok && len(out) != 0 {
		t.Errorf("%s: %v", what, out)
	}
}

// Promise 15, its second part: what is added comes off.
func TestSumsAndDifferences(t *testing.T) {
	for _, a := range nats() {
		for _, b := range nats() {
			x, y := natOf(a), natOf(b)
			sum, ok := impl.NatAdd(x, y)
			checkFitting(t, "NatAdd", sum, ok, new(big.Int).Add(a, b))
			if ok {
				if back, is := impl.NatSub(sum, y); !is || !slices.Equal(back, x) {
					t.Errorf("%v + %v less that is %v, %v", a, b, back, is)
				}
			}
			difference, ok := impl.NatSub(x, y)
			if ok != (a.Cmp(b) >= 0) || ok && !isNat(difference, new(big.Int).Sub(a, b)) || !ok && len(difference) != 0 {
				t.Errorf("%v - %v: %v, %v", a, b, difference, ok)
			}
		}
	}
}

// The limit may be met exactly: 256 digits are an answer, 257 are none.
func TestSumsAndProductsAtTheLimit(t *testing.T) {
	most, one := natOf(moved(powerOfTwo(natBits), -1)), []int{1}
	for _, row := range []struct {
		a, b *big.Int
	}{
		{moved(powerOfTwo(natBits), -2), big.NewInt(1)},
		{moved(powerOfTwo(natBits), -1), big.NewInt(0)},
		{moved(powerOfTwo(natBits), -1), big.NewInt(1)},
		{moved(powerOfTwo(natBits), -1), moved(powerOfTwo(natBits), -1)},
		{powerOfTwo(4095), powerOfTwo(4095)},
		{powerOfTwo(4095), moved(powerOfTwo(4095), -1)},
		{moved(powerOfTwo(2048), -1), moved(powerOfTwo(2048), 1)},
		{moved(powerOfTwo(2048), -1), moved(powerOfTwo(2048), -1)},
		{powerOfTwo(2048), powerOfTwo(2047)},
		{powerOfTwo(2048), powerOfTwo(2048)},
		{powerOfTwo(4080), big.NewInt(65535)},
		{powerOfTwo(4080), big.NewInt(65536)},
		{moved(powerOfTwo(natBits), -1), big.NewInt(2)},
		{powerOfTwo(4095), big.NewInt(2)},
	} {
		a, b := natOf(row.a), natOf(row.b)
		sum, ok := impl.NatAdd(a, b)
		checkFitting(t, "NatAdd", sum, ok, new(big.Int).Add(row.a, row.b))
		sum, ok = impl.NatAdd(b, a)
		checkFitting(t, "NatAdd", sum, ok, new(big.Int).Add(row.a, row.b))
		product, ok := impl.NatMul(a, b)
		checkFitting(t, "NatMul", product, ok, new(big.Int).Mul(row.a, row.b))
		product, ok = impl.NatMul(b, a)
		checkFitting(t, "NatMul", product, ok, new(big.Int).Mul(row.a, row.b))
	}
	if product, ok := impl.NatMul(most, one); !ok || !slices.Equal(product, most) {
		t.Error("the greatest number times 1")
	}
	if product, ok := impl.NatMul(most, nil); !ok || len(product) != 0 {
		t.Error("the greatest number times 0")
	}
}

func TestProducts(t *testing.T) {
	for _, a := range nats() {
		for _, b := range nats() {
			product, ok := impl.NatMul(natOf(a), natOf(b))
			checkFitting(t, "NatMul", product, ok, new(big.Int).Mul(a, b))
		}
	}
}
