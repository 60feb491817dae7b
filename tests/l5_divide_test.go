package tests

import (
	"math/big"
	"slices"
	"testing"

	"loop.example/pinfold/impl"
)

// checkQuotient holds a quotient and its rest against what they should be, and against promise 15, by the program's own product and sum.
func checkQuotient(t *testing.T, a *big.Int, b *big.Int) {
	t.Helper()
	x, y := natOf(a), natOf(b)
	quotient, rest, ok := impl.NatDiv(x, y)
	if b.Sign() == 0 {
		if ok || len(quotient) != 0 || len(rest) != 0 {
			t.Errorf("%v by 0: %v, %v, %v", a, quotient, rest, ok)
		}
		return
	}
	q, r := new(big.Int).QuoRem(a, b, new(big.Int))
	if !ok || !isNat(quotient, q) || !isNat(rest, r) {
		t.Errorf("%v by %v: %v, %v, %v", a, b, quotient, rest, ok)
	}
	product, is := impl.NatMul(quotient, y)
	sum, isSum := impl.NatAdd(product, rest)
	if !is || !isSum || !slices.Equal(sum, x) || impl.NatCmp(rest, y) != -1 {
		t.Errorf("%v by %v: %v times that, and %v, is %v", a, b, quotient, rest, sum)
	}
}

// Promise 15, its first part.
func TestQuotients(t *testing.T) {
	for _, a := range nats() {
		checkQuotient(t, a, a)
		for _, b := range nats() {
			checkQuotient(t, a, b)
		}
	}
}

// Divisors of two digits and three, and numbers of up to five, of all digits at which a guess may fail.
func TestQuotientsOfEdgeDigits(t *testing.T) {
	edges := []int{0, 1, 32768, 65535}
	var lists func(count int) [][]int
	lists = func(count int) [][]int {
		if count == 0 {
			return [][]int{nil}
		}
		var out [][]int
		for _, list := range lists(count - 1) {
			for _, digit := range edges {
				out = append(out, append(slices.Clone(list), digit))
			}
		}
		return out
	}
	numbers := lists(5)
	for _, divisor := range append(lists(3), lists(2)...) {
		for _, number := range numbers {
			a, b := bigOf(number), bigOf(divisor)
			if b.Sign() == 0 {
				continue
			}
			q, r := new(big.Int).QuoRem(a, b, new(big.Int))
			quotient, rest, ok := impl.NatDiv(natOf(a), natOf(b))
			if !ok || !isNat(quotient, q) || !isNat(rest, r) {
				t.Fatalf("%v by %v: %v, %v, %v", number, divisor, quotient, rest, ok)
			}
		}
	}
}

// Quotients with a digit of 65535, with noughts within, and of divisors whose highest digit is 1 come back from their products.
func TestQuotientsWithSuchDigits(t *testing.T) {
	quotients := [][]int{{65535}, {65535, 65535}, {0, 1}, {0, 0, 1}, {1, 0, 1}, {65535, 0, 65535}, {65535, 0, 0, 0, 65535}, {0, 65535, 0, 1}, {65534, 65535, 32768}, slices.Repeat([]int{65535}, 100), append(make([]int, 120), 1)}
	divisors := [][]int{{1}, {2}, {65535}, {0, 1}, {1, 1}, {65535, 1}, {0, 0, 1}, {65535, 65535, 1}, {1, 0, 1}, {65535, 32767}, {0, 32768}, {65535, 65535}, {65535, 0, 32768}, {65535, 65535, 65535}, append(slices.Repeat([]int{65535}, 100), 1), append(make([]int, 100), 1), slices.Repeat([]int{65535}, 100)}
	for _, quotient := range quotients {
		for _, divisor := range divisors {
			b := bigOf(divisor)
			for _, rest := range []*big.Int{big.NewInt(0), new(big.Int).Rsh(b, 1), moved(b, -1)} {
				a := new(big.Int).Mul(bigOf(quotient), b)
				a.Add(a, rest)
				checkQuotient(t, a, b)
				if out, left, ok := impl.NatDiv(natOf(a), divisor); !ok || !slices.Equal(out, quotient) || !isNat(left, rest) {
					t.Errorf("%v times %v, and %v: %v, %v", quotient, divisor, rest, out, left)
				}
			}
		}
	}
}

func TestDivisorsAtTheEdges(t *testing.T) {
	most := moved(powerOfTwo(natBits), -1)
	for _, a := range nats() {
		for _, b := range []*big.Int{big.NewInt(0), big.NewInt(1), a, moved(a, 1), most, moved(most, -1), powerOfTwo(4080), moved(powerOfTwo(4080), -1), powerOfTwo(2048)} {
			if fits(b) {
				checkQuotient(t, a, b)
			}
		}
	}
	s := spread{21}
	for range 3000 {
		divisor := someNat(&s, 1+int(s.next()%12))
		checkQuotient(t, someNat(&s, int(s.next()%24)), divisor)
	}
}

// Promise 19: it divides both, and what is left of both has no divisor but 1.
func checkDivisor(t *testing.T, a *big.Int, b *big.Int) {
	t.Helper()
	x, y := natOf(a), natOf(b)
	divisor, ok := impl.NatGcd(x, y)
	if !ok || !isNat(divisor, new(big.Int).GCD(nil, nil, a, b)) {
		t.Errorf("NatGcd %v, %v: %v, %v", a, b, divisor, ok)
		return
	}
	if len(divisor) == 0 {
		if a.Sign() != 0 || b.Sign() != 0 {
			t.Errorf("NatGcd %v, %v: 0", a, b)
		}
		return
	}
	left, restA, _ := impl.NatDiv(x, divisor)
	right, restB, _ := impl.NatDiv(y, divisor)
	if one, ok := impl.NatGcd(left, right); len(restA) != 0 || len(restB) != 0 || !ok || !slices.Equal(one, []int{1}) {
		t.Errorf("NatGcd %v, %v: %v is not the greatest", a, b, divisor)
	}
}

func TestCommonDivisors(t *testing.T) {
	for _, a := range nats() {
		for _, b := range nats() {
			checkDivisor(t, a, b)
		}
	}
	s := spread{33}
	for range 2000 {
		a, b, both := someNat(&s, int(s.next()%20)), someNat(&s, int(s.next()%20)), someNat(&s, int(s.next()%20))
		checkDivisor(t, a, b)
		checkDivisor(t, a.Mul(a, both), b.Mul(b, both))
	}
}

func TestCommonDivisorsAtTheEdges(t *testing.T) {
	for _, row := range []struct {
		a, b, divisor uint64
	}{
		{0, 0, 0}, {0, 1, 1}, {1, 0, 1}, {0, 65536, 65536}, {65536, 0, 65536}, {1, 1, 1}, {6, 6, 6}, {84, 120, 12}, {120, 84, 12},
		{65535, 65536, 1}, {1 << 40, 1 << 20, 1 << 20}, {1 << 40, 3 << 20, 1 << 20}, {17, 19, 1}, {3 * 65521, 65521, 65521}, {1<<63 + 1, 1 << 63, 1},
	} {
		if divisor, ok := impl.NatGcd(impl.NatOf(row.a), impl.NatOf(row.b)); !ok || !slices.Equal(divisor, impl.NatOf(row.divisor)) {
			t.Errorf("NatGcd %d, %d: %v", row.a, row.b, divisor)
		}
	}
	most := moved(powerOfTwo(natBits), -1)
	for _, n := range []*big.Int{big.NewInt(0), big.NewInt(1), most, moved(most, -1), powerOfTwo(4095), new(big.Int).Quo(most, big.NewInt(3)), new(big.Int).Quo(most, big.NewInt(65535))} {
		checkDivisor(t, n, most)
		checkDivisor(t, most, n)
	}
	// Two that stand one behind the other in this row take more steps than any others of their size.
	first, second := big.NewInt(1), big.NewInt(2)
	for fits(second) {
		checkDivisor(t, second, first)
		first, second = second, new(big.Int).Add(first, second)
	}
}
